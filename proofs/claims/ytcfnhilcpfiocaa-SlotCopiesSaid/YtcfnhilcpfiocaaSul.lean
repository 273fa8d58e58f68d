/- slot's reference: Alike. -/
import Derived.Test.YtcfnhilcpfiocaaSuf
import Derived.Test.YtcfnhilcpfiocaaSto
namespace Go.Proofs.Ytcfnhilcpfiocaa
open Go.RowKit Go.Shelf Go.ChangeMaps Go.MapKept

/-- What cannot panic need not say what follows a panic. -/
def noPanicA (Q : Exit → Act → World → Prop) : Exit → Act → World → Prop
  | .panic _, _, _ => False
  | e, a, w => Q e a w
theorem wp_noPanicA {P : Program} {c : Code} {Q : Exit → Act → World → Prop} {a : Act} {w : World} (h : c.wp P (noPanicA Q) a w) : c.wp P Q a w :=
  wp_mono h fun e a w hq => by cases e <;> first | exact hq | exact hq.elim
/-- Is a row alike among others? -/
def okQ (b : List Rw) (up : Nat) (r : Rw) : Bool := smP r.2.1 (rowN b r.1).2.1 up && smP r.2.2 (rowN b r.1).2.2 up
theorem al_false1 {a b : List Rw} {up : Nat} {r : Rw} (h : r ∈ a) (hq : okQ b up r = false) : alR a b up = false := by
  have : a.all (okQ b up) = false := List.all_eq_false.2 ⟨r, h, by rw [hq]; decide⟩
  show (a.all (okQ b up) && b.all (okQ a up)) = false
  rw [this]; rfl
theorem al_false2 {a b : List Rw} {up : Nat} {r : Rw} (h : r ∈ b) (hq : okQ a up r = false) : alR a b up = false := by
  have : b.all (okQ a up) = false := List.all_eq_false.2 ⟨r, h, by rw [hq]; decide⟩
  show (a.all (okQ b up) && b.all (okQ a up)) = false
  rw [this, Bool.and_false]
theorem al_true {a b : List Rw} {up : Nat} (h : ∀ r ∈ a, okQ b up r = true) (k : ∀ r ∈ b, okQ a up r = true) : alR a b up = true := by
  show (a.all (okQ b up) && b.all (okQ a up)) = true
  rw [List.all_eq_true.2 h, List.all_eq_true.2 k]; rfl
theorem okN {l : List Rw} {n : Nat} (h : ∀ r ∈ l, okR r) (hn : n < MM) : okR (rowN l n) := by
  rw [rowN_Q]
  cases hf : rowQ l n with
  | none => exact ⟨hn, okP0, okP0⟩
  | some r => exact h r (rowQ_mem hf).1
theorem one14 (i0 i1 i2 i3 i4 i5 i6 i7 i8 i9 i10 i11 i12 i13 : Int) : (#[.int .u64 i0, .int .u64 i1, .int .u64 i2, .int .u64 i3, .int .u64 i4, .int .u64 i5, .int .u64 i6, .int .u64 i7, .int .u64 i8, .int .u64 i9, .int .u64 i10, .int .u64 i11, .int .u64 i12, .int .u64 i13] : Array Value).all (·.oneCell') = true := by simp [Value.oneCell']
theorem fill14_grown (X : World) (R : Nat) (v0 v1 v2 v3 v4 v5 v6 v7 v8 v9 v10 v11 v12 v13 : Value) : X.grownBy (((((((((((((((X).setCell ⟨R, 0, none⟩ v0).setCell ⟨R, 1, none⟩ v1).setCell ⟨R, 2, none⟩ v2).setCell ⟨R, 3, none⟩ v3).setCell ⟨R, 4, none⟩ v4).setCell ⟨R, 5, none⟩ v5).setCell ⟨R, 6, none⟩ v6).setCell ⟨R, 7, none⟩ v7).setCell ⟨R, 8, none⟩ v8).setCell ⟨R, 9, none⟩ v9).setCell ⟨R, 10, none⟩ v10).setCell ⟨R, 11, none⟩ v11).setCell ⟨R, 12, none⟩ v12).setCell ⟨R, 13, none⟩ v13) (some R) := grown_set' (grown_set' (grown_set' (grown_set' (grown_set' (grown_set' (grown_set' (grown_set' (grown_set' (grown_set' (grown_set' (grown_set' (grown_set' (grown_set' (grown_refl X R) 0 v0) 1 v1) 2 v2) 3 v3) 4 v4) 5 v5) 6 v6) 7 v7) 8 v8) 9 v9) 10 v10) 11 v11) 12 v12) 13 v13
set_option maxRecDepth 100000 in
set_option maxHeartbeats 16000000 in
theorem ralike_any (B1 B2 up : Nat) (v1 v2 : Value) (l1 l2 : List Rw) (hup : up < 2 ^ 64) (w : World) (h1 : OwR w B1 v1 l1) (h2 : OwR w B2 v2 l2) (hl1 : l1.length ≤ 1000) (hl2 : l2.length ≤ 1000) :
    Calls Try.prog 21 #[.agg #[v1], .agg #[v2], .int .u64 (up : Nat)] w fun e w' => e = .returned (.bool (alR l1 l2 up)) ∧ Below w.heap.size w w' := by
  obtain ⟨x1, c1, rfl⟩ := h1.is
  obtain ⟨x2, c2, rfl⟩ := h2.is
  obtain ⟨N1, hN1⟩ : ∃ N, l1.length = N := ⟨_, rfl⟩
  obtain ⟨N2, hN2⟩ : ∃ N, l2.length = N := ⟨_, rfl⟩
  rw [hN1] at h1 hl1 ⊢
  rw [hN2] at h2 hl2 ⊢
  have HN1 := Lib.hid hN1
  have HN2 := Lib.hid hN2
  have HL1 := Lib.hid hl1
  have HL2 := Lib.hid hl2
  obtain ⟨W1, hW1⟩ : ∃ W1, (w.alloc (.cells #[.slice x1 N1 c1] 31)).alloc (.cells #[.slice x2 N2 c2] 31) = W1 := ⟨_, rfl⟩
  have hB : Below w.heap.size w W1 := by rw [← hW1]; exact balloc (balloc (Below.refl _ _) _) _
  have b0 : Blk W1 w.heap.size 31 #[.slice x1 N1 c1] := by rw [← hW1]; exact (Blk.new _ _ _).alloc _
  have b1 : Blk W1 (w.heap.size + 1) 31 #[.slice x2 N2 c2] := by rw [← hW1]; exact Blk.newS _ _ _ _
  have HA := Lib.hid (And.intro (h1.keep hB) (And.intro (h2.keep hB) (And.intro hB (And.intro b0 b1))))
  have HROW1 := Lib.hid (fun Z (hZ : Below W1.heap.size W1 Z) n hn => row_any B2 (.slice x2 N2 c2) l2 n hn Z (HA.out.2.1.keep hZ) (by rw [HN2.out]; omega))
  have HROW2 := Lib.hid (fun Z (hZ : Below W1.heap.size W1 Z) n hn => row_any B1 (.slice x1 N1 c1) l1 n hn Z (HA.out.1.keep hZ) (by rw [HN1.out]; omega))
  have HW := Lib.hid hW1
  clear h1 h2 hB b0 b1 hW1 hN1 hN2 hl1 hl2
  go_enter Try.func21, Try.ntmps21
  go_upto_region 1 with fail
  rw [HW.out]
  go_wp2_with fail
  go_loopw [7] (fun i wr => ∃ k : Nat, i = .int .i64 k ∧ k ≤ N1 ∧ (∀ r ∈ l1.take k, okQ l2 up r = true) ∧ Below W1.heap.size W1 wr) (fun i _ => N1 - (intOf i).toNat)
  case atStart => exact ⟨0, rfl, Nat.zero_le _, fun x h => (by cases h), Below.refl _ _⟩
  case round =>
    obtain ⟨k, rfl, hk, hpre, hbl⟩ := hrel
    have cA : ∀ Z, Below W1.heap.size W1 Z → Z.cell? ⟨w.heap.size, 0, none⟩ = some (.slice x1 N1 c1) := fun Z q => cell_of_row _ _ 0 _ _ _ (HA.out.2.2.2.1.keep q)
    have cB : ∀ Z, Below W1.heap.size W1 Z → Z.cell? ⟨w.heap.size + 1, 0, none⟩ = some (.slice x2 N2 c2) := fun Z q => cell_of_row _ _ 0 _ _ _ (HA.out.2.2.2.2.keep q)
    have cAw := cA wr hbl
    have cBw := cB wr hbl
    by_cases hlt : k < N1
    · have hltI : (k : Int) < (N1 : Int) := by omega
      have hk0 : ¬ (k : Int) < 0 := by omega
      obtain ⟨r, hr⟩ : ∃ r, l1[k]? = some r := ⟨_, List.getElem?_eq_getElem (by rw [HN1.out]; exact hlt)⟩
      obtain ⟨b, o, c9, e, hbl1, hcell⟩ := OwR.at HA.out.1 hr
      injection e with e1 e2 e3
      subst e1
      have hcl : ∀ w', Below W1.heap.size W1 w' → ∀ j, j < 14 → w'.cell? ⟨b, o + k * 14 + j, none⟩ = (rvA r)[j]? := fun w' q j hj => (q.cell (p := ⟨b, o + k * 14 + j, none⟩) hbl1).trans (hcell j hj)
      have q0 : ∀ Z, Below W1.heap.size W1 Z → Z.cell? ⟨b, o + k * 14, none⟩ = some (.int .u64 (lb r.1 0)) := fun Z q => hcl Z q 0 (by omega)
      have q1 : ∀ Z, Below W1.heap.size W1 Z → Z.cell? ⟨b, o + k * 14 + 1, none⟩ = some (.int .u64 (lb r.1 1)) := fun Z q => hcl Z q 1 (by omega)
      have q2 : ∀ Z, Below W1.heap.size W1 Z → Z.cell? ⟨b, o + k * 14 + 2, none⟩ = some (.int .u64 (lb r.1 2)) := fun Z q => hcl Z q 2 (by omega)
      have q3 : ∀ Z, Below W1.heap.size W1 Z → Z.cell? ⟨b, o + k * 14 + 3, none⟩ = some (.int .u64 (lb r.1 3)) := fun Z q => hcl Z q 3 (by omega)
      have q4 : ∀ Z, Below W1.heap.size W1 Z → Z.cell? ⟨b, o + k * 14 + 4, none⟩ = some (.int .u64 (lb r.2.1.1 0)) := fun Z q => hcl Z q 4 (by omega)
      have q5 : ∀ Z, Below W1.heap.size W1 Z → Z.cell? ⟨b, o + k * 14 + 5, none⟩ = some (.int .u64 (lb r.2.1.1 1)) := fun Z q => hcl Z q 5 (by omega)
      have q6 : ∀ Z, Below W1.heap.size W1 Z → Z.cell? ⟨b, o + k * 14 + 6, none⟩ = some (.int .u64 (lb r.2.1.1 2)) := fun Z q => hcl Z q 6 (by omega)
      have q7 : ∀ Z, Below W1.heap.size W1 Z → Z.cell? ⟨b, o + k * 14 + 7, none⟩ = some (.int .u64 (lb r.2.1.1 3)) := fun Z q => hcl Z q 7 (by omega)
      have q8 : ∀ Z, Below W1.heap.size W1 Z → Z.cell? ⟨b, o + k * 14 + 8, none⟩ = some (.int .u64 (r.2.1.2 : Nat)) := fun Z q => hcl Z q 8 (by omega)
      have q9 : ∀ Z, Below W1.heap.size W1 Z → Z.cell? ⟨b, o + k * 14 + 9, none⟩ = some (.int .u64 (lb r.2.2.1 0)) := fun Z q => hcl Z q 9 (by omega)
      have q10 : ∀ Z, Below W1.heap.size W1 Z → Z.cell? ⟨b, o + k * 14 + 10, none⟩ = some (.int .u64 (lb r.2.2.1 1)) := fun Z q => hcl Z q 10 (by omega)
      have q11 : ∀ Z, Below W1.heap.size W1 Z → Z.cell? ⟨b, o + k * 14 + 11, none⟩ = some (.int .u64 (lb r.2.2.1 2)) := fun Z q => hcl Z q 11 (by omega)
      have q12 : ∀ Z, Below W1.heap.size W1 Z → Z.cell? ⟨b, o + k * 14 + 12, none⟩ = some (.int .u64 (lb r.2.2.1 3)) := fun Z q => hcl Z q 12 (by omega)
      have q13 : ∀ Z, Below W1.heap.size W1 Z → Z.cell? ⟨b, o + k * 14 + 13, none⟩ = some (.int .u64 (r.2.2.2 : Nat)) := fun Z q => hcl Z q 13 (by omega)
      have hok := HA.out.1.1 r (List.mem_of_getElem? hr)
      obtain ⟨x, hx⟩ : ∃ x, rowN l2 r.1 = x := ⟨_, rfl⟩
      have hokx : okR x := by rw [← hx]; exact okN HA.out.2.1.1 hok.1
      have HRW := Lib.hid (fun Z (hZ : Below W1.heap.size W1 Z) => (by have h := HROW1.out Z hZ r.1 hok.1; rw [hx] at h; exact h : Calls Try.prog 28 #[.agg #[.slice x2 N2 c2], W r.1] Z fun e w' => e = .returned (.agg #[.int .u64 (lb x.1 0), .int .u64 (lb x.1 1), .int .u64 (lb x.1 2), .int .u64 (lb x.1 3), .int .u64 (lb x.2.1.1 0), .int .u64 (lb x.2.1.1 1), .int .u64 (lb x.2.1.1 2), .int .u64 (lb x.2.1.1 3), .int .u64 (x.2.1.2 : Nat), .int .u64 (lb x.2.2.1 0), .int .u64 (lb x.2.2.1 1), .int .u64 (lb x.2.2.1 2), .int .u64 (lb x.2.2.1 3), .int .u64 (x.2.2.2 : Nat)]) ∧ Below Z.heap.size Z w'))
      obtain ⟨XA, hXA⟩ : ∃ A : Array Value, #[.int .u64 (lb x.1 0), .int .u64 (lb x.1 1), .int .u64 (lb x.1 2), .int .u64 (lb x.1 3), .int .u64 (lb x.2.1.1 0), .int .u64 (lb x.2.1.1 1), .int .u64 (lb x.2.1.1 2), .int .u64 (lb x.2.1.1 3), .int .u64 (x.2.1.2 : Nat), .int .u64 (lb x.2.2.1 0), .int .u64 (lb x.2.2.1 1), .int .u64 (lb x.2.2.1 2), .int .u64 (lb x.2.2.1 3), .int .u64 (x.2.2.2 : Nat)] = A := ⟨_, rfl⟩
      obtain ⟨RA, hRA⟩ : ∃ A : Array Value, #[.int .u64 (lb r.1 0), .int .u64 (lb r.1 1), .int .u64 (lb r.1 2), .int .u64 (lb r.1 3), .int .u64 (lb r.2.1.1 0), .int .u64 (lb r.2.1.1 1), .int .u64 (lb r.2.1.1 2), .int .u64 (lb r.2.1.1 3), .int .u64 (r.2.1.2 : Nat), .int .u64 (lb r.2.2.1 0), .int .u64 (lb r.2.2.1 1), .int .u64 (lb r.2.2.1 2), .int .u64 (lb r.2.2.1 3), .int .u64 (r.2.2.2 : Nat)] = A := ⟨_, rfl⟩
      rw [hXA] at HRW
      have HXA := Lib.hid (And.intro hXA (show XA.size = 14 ∧ XA.all (·.oneCell') = true by rw [← hXA]; exact ⟨rfl, one14 _ _ _ _ _ _ _ _ _ _ _ _ _ _⟩))
      have HRA := Lib.hid (And.intro hRA (show RA.size = 14 ∧ RA.all (·.oneCell') = true by rw [← hRA]; exact ⟨rfl, one14 _ _ _ _ _ _ _ _ _ _ _ _ _ _⟩))
      clear hXA hRA
      obtain ⟨t1, ht1⟩ : ∃ t, smP r.2.1 x.2.1 up = t := ⟨_, rfl⟩
      obtain ⟨t2, ht2⟩ : ∃ t, smP r.2.2 x.2.2 up = t := ⟨_, rfl⟩
      have HS1 := Lib.hid (fun Z => (by have h := rsame_any9 r.2.1.1 r.2.1.2 x.2.1.1 x.2.1.2 up hok.2.1.2 hup hok.2.1.1 hokx.2.1.1 Z; rw [show smB r.2.1.1 r.2.1.2 x.2.1.1 x.2.1.2 up = t1 from ht1] at h; exact h : Calls Try.prog 37 #[.agg #[.int .u64 (lb r.2.1.1 0), .int .u64 (lb r.2.1.1 1), .int .u64 (lb r.2.1.1 2), .int .u64 (lb r.2.1.1 3), .int .u64 (r.2.1.2 : Nat)], .agg #[.int .u64 (lb x.2.1.1 0), .int .u64 (lb x.2.1.1 1), .int .u64 (lb x.2.1.1 2), .int .u64 (lb x.2.1.1 3), .int .u64 (x.2.1.2 : Nat)], .int .u64 (up : Nat)] Z fun e w' => e = .returned (.bool t1) ∧ Below Z.heap.size Z w'))
      have HS2 := Lib.hid (fun Z => (by have h := rsame_any9 r.2.2.1 r.2.2.2 x.2.2.1 x.2.2.2 up hok.2.2.2 hup hok.2.2.1 hokx.2.2.1 Z; rw [show smB r.2.2.1 r.2.2.2 x.2.2.1 x.2.2.2 up = t2 from ht2] at h; exact h : Calls Try.prog 37 #[.agg #[.int .u64 (lb r.2.2.1 0), .int .u64 (lb r.2.2.1 1), .int .u64 (lb r.2.2.1 2), .int .u64 (lb r.2.2.1 3), .int .u64 (r.2.2.2 : Nat)], .agg #[.int .u64 (lb x.2.2.1 0), .int .u64 (lb x.2.2.1 1), .int .u64 (lb x.2.2.1 2), .int .u64 (lb x.2.2.1 3), .int .u64 (x.2.2.2 : Nat)], .int .u64 (up : Nat)] Z fun e w' => e = .returned (.bool t2) ∧ Below Z.heap.size Z w'))
      have g1 : IntKind.i64.wrap ((k : Int) + 1) = ((k + 1 : Nat) : Int) := IntWalk.i64_in _ (by have := HL1.out; omega)
      have hQ : okQ l2 up r = (t1 && t2) := by unfold okQ; rw [hx, ht1, ht2]
      have hdl : decide (N1 ≤ k) = false := decide_eq_false (by omega)
      have hdl2 : decide ((N1 : Int) ≤ (k : Int)) = false := decide_eq_false (by omega)
      have HR := Lib.hid (And.intro hr (And.intro hpre (And.intro hQ (And.intro hlt hbl))))
      have hS0 : Below W1.heap.size W1 wr.drew := below_drew' hbl
      clear hcl hcell hr hpre hok hokx hbl1 e2 e3 hx ht1 ht2 hQ hbl
      go_upto_region 4 with fail
      go_cut [8, 9] from 13 to 48 (fun p q wx => ∃ g8 g9 : Nat, p = .pointer (some ⟨g8, 0, none⟩) ∧ q = .pointer (some ⟨g9, 0, none⟩) ∧ Blk wx g8 59 RA ∧ Blk wx g9 59 XA ∧ Below W1.heap.size W1 wx)
      case first =>
        have hHd := hS0
        refine wp_noPanicA ?_
        refine wp_region_held_drew (S := fun w' => Below W1.heap.size W1 w') (by as_aux_lemma => kernel_rfl) hHd (fun hHeld => ?_)
        simp only [List.size_toArray, List.length_cons, List.length_nil, Nat.reduceAdd, Array.replicate_succ, Array.replicate_zero, List.push_toArray, List.nil_append, List.cons_append]
        obtain ⟨wd, hwd⟩ : ∃ X, wr.drew = X := ⟨_, rfl⟩
        rw [hwd] at hS0 hHeld ⊢
        clear hHd hwd cAw cBw HS1 HS2 g1 hltI
        refine wpAnyH_take (i := 0) (oi := { dst := some 20, op := Op.fieldAddr 31 (Operand.tmp 3) 0, type := 0, pos := "ref.go:81", after := #[], guard := none }) (v := ?vq0) rfl (by as_aux_lemma => kernel_rfl) (by as_aux_lemma => kernel_rfl) (by as_aux_lemma => kernel_rfl) (fun _ _ _ h => h) (Or.inl ⟨by rfl, ?yq0⟩) (by assumption) ?rq0
        case yq0 => (intro w hSw; (try dsimp only at hSw); go_simp <;> with_reducible rfl)
        simp only [Act.put, List.setIfInBounds_toArray, List.set_cons_zero, List.set_cons_succ]
        refine wpAnyH_take (i := 1) (oi := { dst := some 21, op := Op.load 29 (Operand.tmp 20), type := 29, pos := "ref.go:81", after := #[{ on := 0, ground := Ground.data }], guard := none }) (v := ?vq1) rfl (by as_aux_lemma => kernel_rfl) (by as_aux_lemma => kernel_rfl) (by as_aux_lemma => kernel_rfl) (fun _ _ _ h => h) (Or.inl ⟨by rfl, ?yq1⟩) (by assumption) ?rq1
        case yq1 => (intro w hSw; (try dsimp only at hSw); go_simp <;> with_reducible rfl)
        simp only [Act.put, List.setIfInBounds_toArray, List.set_cons_zero, List.set_cons_succ]
        refine wpAnyH_take (i := 2) (oi := { dst := some 22, op := Op.move (Operand.tmp 7), type := 3, pos := "ref.go:81", after := #[], guard := none }) (v := ?vq2) rfl (by as_aux_lemma => kernel_rfl) (by as_aux_lemma => kernel_rfl) (by as_aux_lemma => kernel_rfl) (fun _ _ _ h => h) (Or.inl ⟨by rfl, ?yq2⟩) (by assumption) ?rq2
        case yq2 => (intro w hSw; (try dsimp only at hSw); go_simp <;> with_reducible rfl)
        simp only [Act.put, List.setIfInBounds_toArray, List.set_cons_zero, List.set_cons_succ]
        refine wpAnyH_take (i := 3) (oi := { dst := some 23, op := Op.indexAddr 29 (Operand.tmp 21) (Operand.tmp 22), type := 0, pos := "ref.go:81", after := #[{ on := 1, ground := Ground.data }, { on := 2, ground := Ground.data }], guard := none }) (v := ?vq3) rfl (by as_aux_lemma => kernel_rfl) (by as_aux_lemma => kernel_rfl) (by as_aux_lemma => kernel_rfl) (fun _ _ _ h => h) (Or.inl ⟨by rfl, ?yq3⟩) (by assumption) ?rq3
        case yq3 => (intro w hSw; (try dsimp only at hSw); go_simp <;> with_reducible rfl)
        simp only [Act.put, List.setIfInBounds_toArray, List.set_cons_zero, List.set_cons_succ]
        refine wpAnyH_take (i := 4) (oi := { dst := some 24, op := Op.load 59 (Operand.tmp 23), type := 59, pos := "ref.go:81", after := #[{ on := 3, ground := Ground.data }], guard := none }) (v := ?vq4) rfl (by as_aux_lemma => kernel_rfl) (by as_aux_lemma => kernel_rfl) (by as_aux_lemma => kernel_rfl) (fun _ _ _ h => h) (Or.inl ⟨by rfl, ?yq4⟩) (by assumption) ?rq4
        case yq4 => (intro w hSw; (try dsimp only at hSw); go_simp <;> with_reducible rfl)
        simp only [Act.put, List.setIfInBounds_toArray, List.set_cons_zero, List.set_cons_succ]
        refine wpAnyH_take (i := 5) (oi := { dst := some 25, op := Op.load 31 (Operand.tmp 4), type := 31, pos := "ref.go:81", after := #[], guard := none }) (v := ?vq5) rfl (by as_aux_lemma => kernel_rfl) (by as_aux_lemma => kernel_rfl) (by as_aux_lemma => kernel_rfl) (fun _ _ _ h => h) (Or.inl ⟨by rfl, ?yq5⟩) (by assumption) ?rq5
        case yq5 => (intro w hSw; (try dsimp only at hSw); go_simp <;> with_reducible rfl)
        simp only [Act.put, List.setIfInBounds_toArray, List.set_cons_zero, List.set_cons_succ]
        refine wpAnyH_take (i := 6) (oi := { dst := some 26, op := Op.fieldAddr 31 (Operand.tmp 3) 0, type := 0, pos := "ref.go:81", after := #[], guard := none }) (v := ?vq6) rfl (by as_aux_lemma => kernel_rfl) (by as_aux_lemma => kernel_rfl) (by as_aux_lemma => kernel_rfl) (fun _ _ _ h => h) (Or.inl ⟨by rfl, ?yq6⟩) (by assumption) ?rq6
        case yq6 => (intro w hSw; (try dsimp only at hSw); go_simp <;> with_reducible rfl)
        simp only [Act.put, List.setIfInBounds_toArray, List.set_cons_zero, List.set_cons_succ]
        refine wpAnyH_take (i := 7) (oi := { dst := some 27, op := Op.load 29 (Operand.tmp 26), type := 29, pos := "ref.go:81", after := #[{ on := 6, ground := Ground.data }], guard := none }) (v := ?vq7) rfl (by as_aux_lemma => kernel_rfl) (by as_aux_lemma => kernel_rfl) (by as_aux_lemma => kernel_rfl) (fun _ _ _ h => h) (Or.inl ⟨by rfl, ?yq7⟩) (by assumption) ?rq7
        case yq7 => (intro w hSw; (try dsimp only at hSw); go_simp <;> with_reducible rfl)
        simp only [Act.put, List.setIfInBounds_toArray, List.set_cons_zero, List.set_cons_succ]
        refine wpAnyH_take (i := 8) (oi := { dst := some 28, op := Op.move (Operand.tmp 7), type := 3, pos := "ref.go:81", after := #[], guard := none }) (v := ?vq8) rfl (by as_aux_lemma => kernel_rfl) (by as_aux_lemma => kernel_rfl) (by as_aux_lemma => kernel_rfl) (fun _ _ _ h => h) (Or.inl ⟨by rfl, ?yq8⟩) (by assumption) ?rq8
        case yq8 => (intro w hSw; (try dsimp only at hSw); go_simp <;> with_reducible rfl)
        simp only [Act.put, List.setIfInBounds_toArray, List.set_cons_zero, List.set_cons_succ]
        refine wpAnyH_take (i := 9) (oi := { dst := some 29, op := Op.indexAddr 29 (Operand.tmp 27) (Operand.tmp 28), type := 0, pos := "ref.go:81", after := #[{ on := 7, ground := Ground.data }, { on := 8, ground := Ground.data }], guard := none }) (v := ?vq9) rfl (by as_aux_lemma => kernel_rfl) (by as_aux_lemma => kernel_rfl) (by as_aux_lemma => kernel_rfl) (fun _ _ _ h => h) (Or.inl ⟨by rfl, ?yq9⟩) (by assumption) ?rq9
        case yq9 => (intro w hSw; (try dsimp only at hSw); go_simp <;> with_reducible rfl)
        simp only [Act.put, List.setIfInBounds_toArray, List.set_cons_zero, List.set_cons_succ]
        refine wpAnyH_take (i := 10) (oi := { dst := some 30, op := Op.fieldAddr 59 (Operand.tmp 29) 0, type := 0, pos := "ref.go:81", after := #[{ on := 9, ground := Ground.data }], guard := none }) (v := ?vq10) rfl (by as_aux_lemma => kernel_rfl) (by as_aux_lemma => kernel_rfl) (by as_aux_lemma => kernel_rfl) (fun _ _ _ h => h) (Or.inl ⟨by rfl, ?yq10⟩) (by assumption) ?rq10
        case yq10 => (intro w hSw; (try dsimp only at hSw); go_simp <;> with_reducible rfl)
        simp only [Act.put, List.setIfInBounds_toArray, List.set_cons_zero, List.set_cons_succ]
        refine wpAnyH_take (i := 11) (oi := { dst := some 31, op := Op.load 25 (Operand.tmp 30), type := 25, pos := "ref.go:81", after := #[{ on := 10, ground := Ground.data }], guard := none }) (v := ?vq11) rfl (by as_aux_lemma => kernel_rfl) (by as_aux_lemma => kernel_rfl) (by as_aux_lemma => kernel_rfl) (fun _ _ _ h => h) (Or.inl ⟨by rfl, ?yq11⟩) (by assumption) ?rq11
        case yq11 => (intro w hSw; (try dsimp only at hSw); go_simp <;> with_reducible rfl)
        simp only [Act.put, List.setIfInBounds_toArray, List.set_cons_zero, List.set_cons_succ]
        rw [HRA.out.1]
        refine wpAnyH_ready (rs := [12, 13, 14]) (by as_aux_lemma => kernel_rfl) (by simp) ?_
        refine AllReadyH.cons (o := { dst := some 32, op := Op.call { callee := Callee.value (Operand.func 28), args := #[Operand.tmp 25, Operand.tmp 31], argTypes := #[31, 25] }, type := 59, pos := "ref.go:81", after := #[{ on := 5, ground := Ground.data }, { on := 11, ground := Ground.data }], guard := none }) rfl (fun K hK => ?_) ?_
        · rw [if_pos (by rfl)]
          go_simp
          (go_at_call 28; refine (HRW.out _ hS0).mono ?_; rintro e z12 ⟨rfl, hzz12⟩)
          have hSz12 : Below W1.heap.size W1 z12 := hS0.trans (hzz12.mono hS0.size)
          refine hK.out _ _ (by (try dsimp only); exact hSz12) (fun hHeld => ?_)
          clear hK K
          simp only [List.setIfInBounds_toArray, List.set_cons_zero, List.set_cons_succ]
          refine wpAnyH_ready (rs := [13, 14]) (by as_aux_lemma => kernel_rfl) (by simp) ?_
          refine AllReadyH.cons (o := { dst := some 8, op := Op.alloc 59, type := 0, pos := "ref.go:81", after := #[], guard := none }) rfl (fun K hK => ?_) ?_
          · rw [if_pos (by rfl)]
            go_simp
            obtain ⟨y13, hy13⟩ : ∃ y, (z12).alloc (.cells #[.int .u64 0, .int .u64 0, .int .u64 0, .int .u64 0, .int .u64 0, .int .u64 0, .int .u64 0, .int .u64 0, .int .u64 0, .int .u64 0, .int .u64 0, .int .u64 0, .int .u64 0, .int .u64 0] 59) = y := ⟨_, rfl⟩
            have hby13 : Blk y13 (z12).heap.size 59 #[.int .u64 0, .int .u64 0, .int .u64 0, .int .u64 0, .int .u64 0, .int .u64 0, .int .u64 0, .int .u64 0, .int .u64 0, .int .u64 0, .int .u64 0, .int .u64 0, .int .u64 0, .int .u64 0] := by rw [← hy13]; exact Blk.new _ _ _
            have hzy13 : Below (z12).heap.size (z12) y13 := by rw [← hy13]; exact balloc (Below.refl _ _) _
            have hSy13 : Below W1.heap.size W1 y13 := hSz12.trans (hzy13.mono hSz12.size)
            have hly13 := hSz12.size
            obtain ⟨gy13, hgy13⟩ : ∃ g, (z12).heap.size = g := ⟨_, rfl⟩
            rw [hgy13] at hby13 hly13
            rw [hy13]
            rw [hgy13]
            refine hK.out _ _ (by (try dsimp only); exact hSy13) (fun hHeld => ?_)
            clear hK K
            simp only [List.setIfInBounds_toArray, List.set_cons_zero, List.set_cons_succ]
            refine wpAnyH_ready (rs := [14]) (by as_aux_lemma => kernel_rfl) (by simp) ?_
            refine AllReadyH.cons (o := { dst := some 9, op := Op.alloc 59, type := 0, pos := "ref.go:81", after := #[], guard := none }) rfl (fun K hK => ?_) (by exact AllReadyH.nil)
            rw [if_pos (by rfl)]
            go_simp
            obtain ⟨y14, hy14⟩ : ∃ y, (y13).alloc (.cells #[.int .u64 0, .int .u64 0, .int .u64 0, .int .u64 0, .int .u64 0, .int .u64 0, .int .u64 0, .int .u64 0, .int .u64 0, .int .u64 0, .int .u64 0, .int .u64 0, .int .u64 0, .int .u64 0] 59) = y := ⟨_, rfl⟩
            have hby14 : Blk y14 (y13).heap.size 59 #[.int .u64 0, .int .u64 0, .int .u64 0, .int .u64 0, .int .u64 0, .int .u64 0, .int .u64 0, .int .u64 0, .int .u64 0, .int .u64 0, .int .u64 0, .int .u64 0, .int .u64 0, .int .u64 0] := by rw [← hy14]; exact Blk.new _ _ _
            have hzy14 : Below (y13).heap.size (y13) y14 := by rw [← hy14]; exact balloc (Below.refl _ _) _
            have hSy14 : Below W1.heap.size W1 y14 := hSy13.trans (hzy14.mono hSy13.size)
            have hly14 := hSy13.size
            have hny14 : gy13 ≠ (y13).heap.size := by have := hby13.lt; omega
            have hb8y14 := hby13.keep hzy14
            obtain ⟨gy14, hgy14⟩ : ∃ g, (y13).heap.size = g := ⟨_, rfl⟩
            rw [hgy14] at hby14 hly14 hny14
            rw [hy14]
            rw [hgy14]
            refine hK.out _ _ (by (try dsimp only); exact hSy14) (fun hHeld => ?_)
            clear hK K
            simp only [List.setIfInBounds_toArray, List.set_cons_zero, List.set_cons_succ]
            refine wpAnyH_ready (rs := [15]) (by as_aux_lemma => kernel_rfl) (by simp) ?_
            refine AllReadyH.cons (o := { dst := none, op := Op.store 59 (Operand.tmp 8) (Operand.tmp 24), type := 0, pos := "ref.go:81", after := #[{ on := 13, ground := Ground.data }, { on := 4, ground := Ground.data }, { on := 12, ground := Ground.chain }, { on := 0, ground := Ground.phase }, { on := 1, ground := Ground.phase }, { on := 2, ground := Ground.phase }, { on := 3, ground := Ground.phase }, { on := 4, ground := Ground.phase }, { on := 5, ground := Ground.textOnly Departure.lateStores }, { on := 6, ground := Ground.textOnly Departure.lateStores }, { on := 7, ground := Ground.textOnly Departure.lateStores }, { on := 8, ground := Ground.textOnly Departure.lateStores }, { on := 9, ground := Ground.textOnly Departure.lateStores }, { on := 10, ground := Ground.textOnly Departure.lateStores }, { on := 11, ground := Ground.textOnly Departure.lateStores }, { on := 12, ground := Ground.textOnly Departure.lateStoresUnsure }, { on := 13, ground := Ground.phase }, { on := 14, ground := Ground.phase }], guard := none }) rfl (fun K hK => ?_) (by exact AllReadyH.nil)
            rw [if_pos (by rfl)]
            refine wp_store_row 59 (.tmp 8) (.tmp 24) rfl gy13 RA rfl rfl 59 #[.int .u64 0, .int .u64 0, .int .u64 0, .int .u64 0, .int .u64 0, .int .u64 0, .int .u64 0, .int .u64 0, .int .u64 0, .int .u64 0, .int .u64 0, .int .u64 0, .int .u64 0, .int .u64 0] hb8y14 (by rw [info_row, HRA.out.2.1]) (by rw [HRA.out.2.1]; rfl) HRA.out.2.2 ?_
            have hbx15 := setRow_heap y14 gy13 _ RA _ _ hb8y14
            have hSx15 : Below W1.heap.size W1 (y14.setRow gy13 RA) := below_setRow hSy14 hly13 _
            have hb9x15 := (setRow_other y14 gy13 gy14 RA (by omega)).trans hby14
            obtain ⟨x15, hx15⟩ : ∃ Z, y14.setRow gy13 RA = Z := ⟨_, rfl⟩
            rw [hx15] at hbx15 hSx15 hb9x15 ⊢
            clear hx15
            refine hK.out _ _ (by (try dsimp only); exact hSx15) (fun hHeld => ?_)
            clear hK K
            simp only [List.setIfInBounds_toArray, List.set_cons_zero, List.set_cons_succ]
            refine wpAnyH_ready (rs := [16]) (by as_aux_lemma => kernel_rfl) (by simp) ?_
            refine AllReadyH.cons (o := { dst := none, op := Op.store 59 (Operand.tmp 9) (Operand.tmp 32), type := 0, pos := "ref.go:81", after := #[{ on := 14, ground := Ground.data }, { on := 12, ground := Ground.data }, { on := 15, ground := Ground.chain }, { on := 0, ground := Ground.phase }, { on := 1, ground := Ground.phase }, { on := 2, ground := Ground.phase }, { on := 3, ground := Ground.phase }, { on := 4, ground := Ground.phase }, { on := 5, ground := Ground.phase }, { on := 6, ground := Ground.phase }, { on := 7, ground := Ground.phase }, { on := 8, ground := Ground.phase }, { on := 9, ground := Ground.phase }, { on := 10, ground := Ground.phase }, { on := 11, ground := Ground.phase }, { on := 12, ground := Ground.phase }, { on := 13, ground := Ground.phase }, { on := 14, ground := Ground.phase }, { on := 15, ground := Ground.phase }], guard := none }) rfl (fun K hK => ?_) (by exact AllReadyH.nil)
            rw [if_pos (by rfl)]
            refine wp_store_row 59 (.tmp 9) (.tmp 32) rfl gy14 XA rfl rfl 59 #[.int .u64 0, .int .u64 0, .int .u64 0, .int .u64 0, .int .u64 0, .int .u64 0, .int .u64 0, .int .u64 0, .int .u64 0, .int .u64 0, .int .u64 0, .int .u64 0, .int .u64 0, .int .u64 0] hb9x15 (by rw [info_row, HXA.out.2.1]) (by rw [HXA.out.2.1]; rfl) HXA.out.2.2 ?_
            have hbx16 := setRow_heap x15 gy14 _ XA _ _ hb9x15
            have hSx16 : Below W1.heap.size W1 (x15.setRow gy14 XA) := below_setRow hSx15 hly14 _
            have hb8x16 := (setRow_other x15 gy14 gy13 XA (by omega)).trans hbx15
            obtain ⟨x16, hx16⟩ : ∃ Z, x15.setRow gy14 XA = Z := ⟨_, rfl⟩
            rw [hx16] at hbx16 hSx16 hb8x16 ⊢
            clear hx16
            refine hK.out _ _ (by (try dsimp only); exact hSx16) (fun hHeld => ?_)
            clear hK K
            simp only [List.setIfInBounds_toArray, List.set_cons_zero, List.set_cons_succ]
            refine wpAnyH_done (by as_aux_lemma => kernel_rfl) ?_ _
            clear hHeld
            simp only [noPanicA]
            go_wp2_with fail
            go_meet
            exact ⟨gy13, gy14, rfl, rfl, hb8x16, hbx16, hSx16⟩
          refine AllReadyH.cons (o := { dst := some 9, op := Op.alloc 59, type := 0, pos := "ref.go:81", after := #[], guard := none }) rfl (fun K hK => ?_) (by exact AllReadyH.nil)
          rw [if_pos (by rfl)]
          go_simp
          obtain ⟨y17, hy17⟩ : ∃ y, (z12).alloc (.cells #[.int .u64 0, .int .u64 0, .int .u64 0, .int .u64 0, .int .u64 0, .int .u64 0, .int .u64 0, .int .u64 0, .int .u64 0, .int .u64 0, .int .u64 0, .int .u64 0, .int .u64 0, .int .u64 0] 59) = y := ⟨_, rfl⟩
          have hby17 : Blk y17 (z12).heap.size 59 #[.int .u64 0, .int .u64 0, .int .u64 0, .int .u64 0, .int .u64 0, .int .u64 0, .int .u64 0, .int .u64 0, .int .u64 0, .int .u64 0, .int .u64 0, .int .u64 0, .int .u64 0, .int .u64 0] := by rw [← hy17]; exact Blk.new _ _ _
          have hzy17 : Below (z12).heap.size (z12) y17 := by rw [← hy17]; exact balloc (Below.refl _ _) _
          have hSy17 : Below W1.heap.size W1 y17 := hSz12.trans (hzy17.mono hSz12.size)
          have hly17 := hSz12.size
          obtain ⟨gy17, hgy17⟩ : ∃ g, (z12).heap.size = g := ⟨_, rfl⟩
          rw [hgy17] at hby17 hly17
          rw [hy17]
          rw [hgy17]
          refine hK.out _ _ (by (try dsimp only); exact hSy17) (fun hHeld => ?_)
          clear hK K
          simp only [List.setIfInBounds_toArray, List.set_cons_zero, List.set_cons_succ]
          refine wpAnyH_ready (rs := [13]) (by as_aux_lemma => kernel_rfl) (by simp) ?_
          refine AllReadyH.cons (o := { dst := some 8, op := Op.alloc 59, type := 0, pos := "ref.go:81", after := #[], guard := none }) rfl (fun K hK => ?_) (by exact AllReadyH.nil)
          rw [if_pos (by rfl)]
          go_simp
          obtain ⟨y18, hy18⟩ : ∃ y, (y17).alloc (.cells #[.int .u64 0, .int .u64 0, .int .u64 0, .int .u64 0, .int .u64 0, .int .u64 0, .int .u64 0, .int .u64 0, .int .u64 0, .int .u64 0, .int .u64 0, .int .u64 0, .int .u64 0, .int .u64 0] 59) = y := ⟨_, rfl⟩
          have hby18 : Blk y18 (y17).heap.size 59 #[.int .u64 0, .int .u64 0, .int .u64 0, .int .u64 0, .int .u64 0, .int .u64 0, .int .u64 0, .int .u64 0, .int .u64 0, .int .u64 0, .int .u64 0, .int .u64 0, .int .u64 0, .int .u64 0] := by rw [← hy18]; exact Blk.new _ _ _
          have hzy18 : Below (y17).heap.size (y17) y18 := by rw [← hy18]; exact balloc (Below.refl _ _) _
          have hSy18 : Below W1.heap.size W1 y18 := hSy17.trans (hzy18.mono hSy17.size)
          have hly18 := hSy17.size
          have hny18 : gy17 ≠ (y17).heap.size := by have := hby17.lt; omega
          have hb9y18 := hby17.keep hzy18
          obtain ⟨gy18, hgy18⟩ : ∃ g, (y17).heap.size = g := ⟨_, rfl⟩
          rw [hgy18] at hby18 hly18 hny18
          rw [hy18]
          rw [hgy18]
          refine hK.out _ _ (by (try dsimp only); exact hSy18) (fun hHeld => ?_)
          clear hK K
          simp only [List.setIfInBounds_toArray, List.set_cons_zero, List.set_cons_succ]
          refine wpAnyH_ready (rs := [15]) (by as_aux_lemma => kernel_rfl) (by simp) ?_
          refine AllReadyH.cons (o := { dst := none, op := Op.store 59 (Operand.tmp 8) (Operand.tmp 24), type := 0, pos := "ref.go:81", after := #[{ on := 13, ground := Ground.data }, { on := 4, ground := Ground.data }, { on := 12, ground := Ground.chain }, { on := 0, ground := Ground.phase }, { on := 1, ground := Ground.phase }, { on := 2, ground := Ground.phase }, { on := 3, ground := Ground.phase }, { on := 4, ground := Ground.phase }, { on := 5, ground := Ground.textOnly Departure.lateStores }, { on := 6, ground := Ground.textOnly Departure.lateStores }, { on := 7, ground := Ground.textOnly Departure.lateStores }, { on := 8, ground := Ground.textOnly Departure.lateStores }, { on := 9, ground := Ground.textOnly Departure.lateStores }, { on := 10, ground := Ground.textOnly Departure.lateStores }, { on := 11, ground := Ground.textOnly Departure.lateStores }, { on := 12, ground := Ground.textOnly Departure.lateStoresUnsure }, { on := 13, ground := Ground.phase }, { on := 14, ground := Ground.phase }], guard := none }) rfl (fun K hK => ?_) (by exact AllReadyH.nil)
          rw [if_pos (by rfl)]
          refine wp_store_row 59 (.tmp 8) (.tmp 24) rfl gy18 RA rfl rfl 59 #[.int .u64 0, .int .u64 0, .int .u64 0, .int .u64 0, .int .u64 0, .int .u64 0, .int .u64 0, .int .u64 0, .int .u64 0, .int .u64 0, .int .u64 0, .int .u64 0, .int .u64 0, .int .u64 0] hby18 (by rw [info_row, HRA.out.2.1]) (by rw [HRA.out.2.1]; rfl) HRA.out.2.2 ?_
          have hbx19 := setRow_heap y18 gy18 _ RA _ _ hby18
          have hSx19 : Below W1.heap.size W1 (y18.setRow gy18 RA) := below_setRow hSy18 hly18 _
          have hb9x19 := (setRow_other y18 gy18 gy17 RA (by omega)).trans hb9y18
          obtain ⟨x19, hx19⟩ : ∃ Z, y18.setRow gy18 RA = Z := ⟨_, rfl⟩
          rw [hx19] at hbx19 hSx19 hb9x19 ⊢
          clear hx19
          refine hK.out _ _ (by (try dsimp only); exact hSx19) (fun hHeld => ?_)
          clear hK K
          simp only [List.setIfInBounds_toArray, List.set_cons_zero, List.set_cons_succ]
          refine wpAnyH_ready (rs := [16]) (by as_aux_lemma => kernel_rfl) (by simp) ?_
          refine AllReadyH.cons (o := { dst := none, op := Op.store 59 (Operand.tmp 9) (Operand.tmp 32), type := 0, pos := "ref.go:81", after := #[{ on := 14, ground := Ground.data }, { on := 12, ground := Ground.data }, { on := 15, ground := Ground.chain }, { on := 0, ground := Ground.phase }, { on := 1, ground := Ground.phase }, { on := 2, ground := Ground.phase }, { on := 3, ground := Ground.phase }, { on := 4, ground := Ground.phase }, { on := 5, ground := Ground.phase }, { on := 6, ground := Ground.phase }, { on := 7, ground := Ground.phase }, { on := 8, ground := Ground.phase }, { on := 9, ground := Ground.phase }, { on := 10, ground := Ground.phase }, { on := 11, ground := Ground.phase }, { on := 12, ground := Ground.phase }, { on := 13, ground := Ground.phase }, { on := 14, ground := Ground.phase }, { on := 15, ground := Ground.phase }], guard := none }) rfl (fun K hK => ?_) (by exact AllReadyH.nil)
          rw [if_pos (by rfl)]
          refine wp_store_row 59 (.tmp 9) (.tmp 32) rfl gy17 XA rfl rfl 59 #[.int .u64 0, .int .u64 0, .int .u64 0, .int .u64 0, .int .u64 0, .int .u64 0, .int .u64 0, .int .u64 0, .int .u64 0, .int .u64 0, .int .u64 0, .int .u64 0, .int .u64 0, .int .u64 0] hb9x19 (by rw [info_row, HXA.out.2.1]) (by rw [HXA.out.2.1]; rfl) HXA.out.2.2 ?_
          have hbx20 := setRow_heap x19 gy17 _ XA _ _ hb9x19
          have hSx20 : Below W1.heap.size W1 (x19.setRow gy17 XA) := below_setRow hSx19 hly17 _
          have hb8x20 := (setRow_other x19 gy17 gy18 XA (by omega)).trans hbx19
          obtain ⟨x20, hx20⟩ : ∃ Z, x19.setRow gy17 XA = Z := ⟨_, rfl⟩
          rw [hx20] at hbx20 hSx20 hb8x20 ⊢
          clear hx20
          refine hK.out _ _ (by (try dsimp only); exact hSx20) (fun hHeld => ?_)
          clear hK K
          simp only [List.setIfInBounds_toArray, List.set_cons_zero, List.set_cons_succ]
          refine wpAnyH_done (by as_aux_lemma => kernel_rfl) ?_ _
          clear hHeld
          simp only [noPanicA]
          go_wp2_with fail
          go_meet
          exact ⟨gy18, gy17, rfl, rfl, hb8x20, hbx20, hSx20⟩
        refine AllReadyH.cons (o := { dst := some 8, op := Op.alloc 59, type := 0, pos := "ref.go:81", after := #[], guard := none }) rfl (fun K hK => ?_) ?_
        · rw [if_pos (by rfl)]
          go_simp
          obtain ⟨y21, hy21⟩ : ∃ y, (wd).alloc (.cells #[.int .u64 0, .int .u64 0, .int .u64 0, .int .u64 0, .int .u64 0, .int .u64 0, .int .u64 0, .int .u64 0, .int .u64 0, .int .u64 0, .int .u64 0, .int .u64 0, .int .u64 0, .int .u64 0] 59) = y := ⟨_, rfl⟩
          have hby21 : Blk y21 (wd).heap.size 59 #[.int .u64 0, .int .u64 0, .int .u64 0, .int .u64 0, .int .u64 0, .int .u64 0, .int .u64 0, .int .u64 0, .int .u64 0, .int .u64 0, .int .u64 0, .int .u64 0, .int .u64 0, .int .u64 0] := by rw [← hy21]; exact Blk.new _ _ _
          have hzy21 : Below (wd).heap.size (wd) y21 := by rw [← hy21]; exact balloc (Below.refl _ _) _
          have hSy21 : Below W1.heap.size W1 y21 := hS0.trans (hzy21.mono hS0.size)
          have hly21 := hS0.size
          obtain ⟨gy21, hgy21⟩ : ∃ g, (wd).heap.size = g := ⟨_, rfl⟩
          rw [hgy21] at hby21 hly21
          rw [hy21]
          rw [hgy21]
          refine hK.out _ _ (by (try dsimp only); exact hSy21) (fun hHeld => ?_)
          clear hK K
          simp only [List.setIfInBounds_toArray, List.set_cons_zero, List.set_cons_succ]
          refine wpAnyH_ready (rs := [12, 14]) (by as_aux_lemma => kernel_rfl) (by simp) ?_
          refine AllReadyH.cons (o := { dst := some 32, op := Op.call { callee := Callee.value (Operand.func 28), args := #[Operand.tmp 25, Operand.tmp 31], argTypes := #[31, 25] }, type := 59, pos := "ref.go:81", after := #[{ on := 5, ground := Ground.data }, { on := 11, ground := Ground.data }], guard := none }) rfl (fun K hK => ?_) ?_
          · rw [if_pos (by rfl)]
            go_simp
            (go_at_call 28; refine (HRW.out _ hSy21).mono ?_; rintro e z22 ⟨rfl, hzz22⟩)
            have hSz22 : Below W1.heap.size W1 z22 := hSy21.trans (hzz22.mono hSy21.size)
            have hb8z22 := hby21.keep hzz22
            refine hK.out _ _ (by (try dsimp only); exact hSz22) (fun hHeld => ?_)
            clear hK K
            simp only [List.setIfInBounds_toArray, List.set_cons_zero, List.set_cons_succ]
            refine wpAnyH_ready (rs := [14]) (by as_aux_lemma => kernel_rfl) (by simp) ?_
            refine AllReadyH.cons (o := { dst := some 9, op := Op.alloc 59, type := 0, pos := "ref.go:81", after := #[], guard := none }) rfl (fun K hK => ?_) (by exact AllReadyH.nil)
            rw [if_pos (by rfl)]
            go_simp
            obtain ⟨y23, hy23⟩ : ∃ y, (z22).alloc (.cells #[.int .u64 0, .int .u64 0, .int .u64 0, .int .u64 0, .int .u64 0, .int .u64 0, .int .u64 0, .int .u64 0, .int .u64 0, .int .u64 0, .int .u64 0, .int .u64 0, .int .u64 0, .int .u64 0] 59) = y := ⟨_, rfl⟩
            have hby23 : Blk y23 (z22).heap.size 59 #[.int .u64 0, .int .u64 0, .int .u64 0, .int .u64 0, .int .u64 0, .int .u64 0, .int .u64 0, .int .u64 0, .int .u64 0, .int .u64 0, .int .u64 0, .int .u64 0, .int .u64 0, .int .u64 0] := by rw [← hy23]; exact Blk.new _ _ _
            have hzy23 : Below (z22).heap.size (z22) y23 := by rw [← hy23]; exact balloc (Below.refl _ _) _
            have hSy23 : Below W1.heap.size W1 y23 := hSz22.trans (hzy23.mono hSz22.size)
            have hly23 := hSz22.size
            have hny23 : gy21 ≠ (z22).heap.size := by have := hb8z22.lt; omega
            have hb8y23 := hb8z22.keep hzy23
            obtain ⟨gy23, hgy23⟩ : ∃ g, (z22).heap.size = g := ⟨_, rfl⟩
            rw [hgy23] at hby23 hly23 hny23
            rw [hy23]
            rw [hgy23]
            refine hK.out _ _ (by (try dsimp only); exact hSy23) (fun hHeld => ?_)
            clear hK K
            simp only [List.setIfInBounds_toArray, List.set_cons_zero, List.set_cons_succ]
            refine wpAnyH_ready (rs := [15]) (by as_aux_lemma => kernel_rfl) (by simp) ?_
            refine AllReadyH.cons (o := { dst := none, op := Op.store 59 (Operand.tmp 8) (Operand.tmp 24), type := 0, pos := "ref.go:81", after := #[{ on := 13, ground := Ground.data }, { on := 4, ground := Ground.data }, { on := 12, ground := Ground.chain }, { on := 0, ground := Ground.phase }, { on := 1, ground := Ground.phase }, { on := 2, ground := Ground.phase }, { on := 3, ground := Ground.phase }, { on := 4, ground := Ground.phase }, { on := 5, ground := Ground.textOnly Departure.lateStores }, { on := 6, ground := Ground.textOnly Departure.lateStores }, { on := 7, ground := Ground.textOnly Departure.lateStores }, { on := 8, ground := Ground.textOnly Departure.lateStores }, { on := 9, ground := Ground.textOnly Departure.lateStores }, { on := 10, ground := Ground.textOnly Departure.lateStores }, { on := 11, ground := Ground.textOnly Departure.lateStores }, { on := 12, ground := Ground.textOnly Departure.lateStoresUnsure }, { on := 13, ground := Ground.phase }, { on := 14, ground := Ground.phase }], guard := none }) rfl (fun K hK => ?_) (by exact AllReadyH.nil)
            rw [if_pos (by rfl)]
            refine wp_store_row 59 (.tmp 8) (.tmp 24) rfl gy21 RA rfl rfl 59 #[.int .u64 0, .int .u64 0, .int .u64 0, .int .u64 0, .int .u64 0, .int .u64 0, .int .u64 0, .int .u64 0, .int .u64 0, .int .u64 0, .int .u64 0, .int .u64 0, .int .u64 0, .int .u64 0] hb8y23 (by rw [info_row, HRA.out.2.1]) (by rw [HRA.out.2.1]; rfl) HRA.out.2.2 ?_
            have hbx24 := setRow_heap y23 gy21 _ RA _ _ hb8y23
            have hSx24 : Below W1.heap.size W1 (y23.setRow gy21 RA) := below_setRow hSy23 hly21 _
            have hb9x24 := (setRow_other y23 gy21 gy23 RA (by omega)).trans hby23
            obtain ⟨x24, hx24⟩ : ∃ Z, y23.setRow gy21 RA = Z := ⟨_, rfl⟩
            rw [hx24] at hbx24 hSx24 hb9x24 ⊢
            clear hx24
            refine hK.out _ _ (by (try dsimp only); exact hSx24) (fun hHeld => ?_)
            clear hK K
            simp only [List.setIfInBounds_toArray, List.set_cons_zero, List.set_cons_succ]
            refine wpAnyH_ready (rs := [16]) (by as_aux_lemma => kernel_rfl) (by simp) ?_
            refine AllReadyH.cons (o := { dst := none, op := Op.store 59 (Operand.tmp 9) (Operand.tmp 32), type := 0, pos := "ref.go:81", after := #[{ on := 14, ground := Ground.data }, { on := 12, ground := Ground.data }, { on := 15, ground := Ground.chain }, { on := 0, ground := Ground.phase }, { on := 1, ground := Ground.phase }, { on := 2, ground := Ground.phase }, { on := 3, ground := Ground.phase }, { on := 4, ground := Ground.phase }, { on := 5, ground := Ground.phase }, { on := 6, ground := Ground.phase }, { on := 7, ground := Ground.phase }, { on := 8, ground := Ground.phase }, { on := 9, ground := Ground.phase }, { on := 10, ground := Ground.phase }, { on := 11, ground := Ground.phase }, { on := 12, ground := Ground.phase }, { on := 13, ground := Ground.phase }, { on := 14, ground := Ground.phase }, { on := 15, ground := Ground.phase }], guard := none }) rfl (fun K hK => ?_) (by exact AllReadyH.nil)
            rw [if_pos (by rfl)]
            refine wp_store_row 59 (.tmp 9) (.tmp 32) rfl gy23 XA rfl rfl 59 #[.int .u64 0, .int .u64 0, .int .u64 0, .int .u64 0, .int .u64 0, .int .u64 0, .int .u64 0, .int .u64 0, .int .u64 0, .int .u64 0, .int .u64 0, .int .u64 0, .int .u64 0, .int .u64 0] hb9x24 (by rw [info_row, HXA.out.2.1]) (by rw [HXA.out.2.1]; rfl) HXA.out.2.2 ?_
            have hbx25 := setRow_heap x24 gy23 _ XA _ _ hb9x24
            have hSx25 : Below W1.heap.size W1 (x24.setRow gy23 XA) := below_setRow hSx24 hly23 _
            have hb8x25 := (setRow_other x24 gy23 gy21 XA (by omega)).trans hbx24
            obtain ⟨x25, hx25⟩ : ∃ Z, x24.setRow gy23 XA = Z := ⟨_, rfl⟩
            rw [hx25] at hbx25 hSx25 hb8x25 ⊢
            clear hx25
            refine hK.out _ _ (by (try dsimp only); exact hSx25) (fun hHeld => ?_)
            clear hK K
            simp only [List.setIfInBounds_toArray, List.set_cons_zero, List.set_cons_succ]
            refine wpAnyH_done (by as_aux_lemma => kernel_rfl) ?_ _
            clear hHeld
            simp only [noPanicA]
            go_wp2_with fail
            go_meet
            exact ⟨gy21, gy23, rfl, rfl, hb8x25, hbx25, hSx25⟩
          refine AllReadyH.cons (o := { dst := some 9, op := Op.alloc 59, type := 0, pos := "ref.go:81", after := #[], guard := none }) rfl (fun K hK => ?_) (by exact AllReadyH.nil)
          rw [if_pos (by rfl)]
          go_simp
          obtain ⟨y26, hy26⟩ : ∃ y, (y21).alloc (.cells #[.int .u64 0, .int .u64 0, .int .u64 0, .int .u64 0, .int .u64 0, .int .u64 0, .int .u64 0, .int .u64 0, .int .u64 0, .int .u64 0, .int .u64 0, .int .u64 0, .int .u64 0, .int .u64 0] 59) = y := ⟨_, rfl⟩
          have hby26 : Blk y26 (y21).heap.size 59 #[.int .u64 0, .int .u64 0, .int .u64 0, .int .u64 0, .int .u64 0, .int .u64 0, .int .u64 0, .int .u64 0, .int .u64 0, .int .u64 0, .int .u64 0, .int .u64 0, .int .u64 0, .int .u64 0] := by rw [← hy26]; exact Blk.new _ _ _
          have hzy26 : Below (y21).heap.size (y21) y26 := by rw [← hy26]; exact balloc (Below.refl _ _) _
          have hSy26 : Below W1.heap.size W1 y26 := hSy21.trans (hzy26.mono hSy21.size)
          have hly26 := hSy21.size
          have hny26 : gy21 ≠ (y21).heap.size := by have := hby21.lt; omega
          have hb8y26 := hby21.keep hzy26
          obtain ⟨gy26, hgy26⟩ : ∃ g, (y21).heap.size = g := ⟨_, rfl⟩
          rw [hgy26] at hby26 hly26 hny26
          rw [hy26]
          rw [hgy26]
          refine hK.out _ _ (by (try dsimp only); exact hSy26) (fun hHeld => ?_)
          clear hK K
          simp only [List.setIfInBounds_toArray, List.set_cons_zero, List.set_cons_succ]
          refine wpAnyH_ready (rs := [12]) (by as_aux_lemma => kernel_rfl) (by simp) ?_
          refine AllReadyH.cons (o := { dst := some 32, op := Op.call { callee := Callee.value (Operand.func 28), args := #[Operand.tmp 25, Operand.tmp 31], argTypes := #[31, 25] }, type := 59, pos := "ref.go:81", after := #[{ on := 5, ground := Ground.data }, { on := 11, ground := Ground.data }], guard := none }) rfl (fun K hK => ?_) (by exact AllReadyH.nil)
          rw [if_pos (by rfl)]
          go_simp
          (go_at_call 28; refine (HRW.out _ hSy26).mono ?_; rintro e z27 ⟨rfl, hzz27⟩)
          have hSz27 : Below W1.heap.size W1 z27 := hSy26.trans (hzz27.mono hSy26.size)
          have hb8z27 := hb8y26.keep hzz27
          have hb9z27 := hby26.keep hzz27
          refine hK.out _ _ (by (try dsimp only); exact hSz27) (fun hHeld => ?_)
          clear hK K
          simp only [List.setIfInBounds_toArray, List.set_cons_zero, List.set_cons_succ]
          refine wpAnyH_ready (rs := [15]) (by as_aux_lemma => kernel_rfl) (by simp) ?_
          refine AllReadyH.cons (o := { dst := none, op := Op.store 59 (Operand.tmp 8) (Operand.tmp 24), type := 0, pos := "ref.go:81", after := #[{ on := 13, ground := Ground.data }, { on := 4, ground := Ground.data }, { on := 12, ground := Ground.chain }, { on := 0, ground := Ground.phase }, { on := 1, ground := Ground.phase }, { on := 2, ground := Ground.phase }, { on := 3, ground := Ground.phase }, { on := 4, ground := Ground.phase }, { on := 5, ground := Ground.textOnly Departure.lateStores }, { on := 6, ground := Ground.textOnly Departure.lateStores }, { on := 7, ground := Ground.textOnly Departure.lateStores }, { on := 8, ground := Ground.textOnly Departure.lateStores }, { on := 9, ground := Ground.textOnly Departure.lateStores }, { on := 10, ground := Ground.textOnly Departure.lateStores }, { on := 11, ground := Ground.textOnly Departure.lateStores }, { on := 12, ground := Ground.textOnly Departure.lateStoresUnsure }, { on := 13, ground := Ground.phase }, { on := 14, ground := Ground.phase }], guard := none }) rfl (fun K hK => ?_) (by exact AllReadyH.nil)
          rw [if_pos (by rfl)]
          refine wp_store_row 59 (.tmp 8) (.tmp 24) rfl gy21 RA rfl rfl 59 #[.int .u64 0, .int .u64 0, .int .u64 0, .int .u64 0, .int .u64 0, .int .u64 0, .int .u64 0, .int .u64 0, .int .u64 0, .int .u64 0, .int .u64 0, .int .u64 0, .int .u64 0, .int .u64 0] hb8z27 (by rw [info_row, HRA.out.2.1]) (by rw [HRA.out.2.1]; rfl) HRA.out.2.2 ?_
          have hbx28 := setRow_heap z27 gy21 _ RA _ _ hb8z27
          have hSx28 : Below W1.heap.size W1 (z27.setRow gy21 RA) := below_setRow hSz27 hly21 _
          have hb9x28 := (setRow_other z27 gy21 gy26 RA (by omega)).trans hb9z27
          obtain ⟨x28, hx28⟩ : ∃ Z, z27.setRow gy21 RA = Z := ⟨_, rfl⟩
          rw [hx28] at hbx28 hSx28 hb9x28 ⊢
          clear hx28
          refine hK.out _ _ (by (try dsimp only); exact hSx28) (fun hHeld => ?_)
          clear hK K
          simp only [List.setIfInBounds_toArray, List.set_cons_zero, List.set_cons_succ]
          refine wpAnyH_ready (rs := [16]) (by as_aux_lemma => kernel_rfl) (by simp) ?_
          refine AllReadyH.cons (o := { dst := none, op := Op.store 59 (Operand.tmp 9) (Operand.tmp 32), type := 0, pos := "ref.go:81", after := #[{ on := 14, ground := Ground.data }, { on := 12, ground := Ground.data }, { on := 15, ground := Ground.chain }, { on := 0, ground := Ground.phase }, { on := 1, ground := Ground.phase }, { on := 2, ground := Ground.phase }, { on := 3, ground := Ground.phase }, { on := 4, ground := Ground.phase }, { on := 5, ground := Ground.phase }, { on := 6, ground := Ground.phase }, { on := 7, ground := Ground.phase }, { on := 8, ground := Ground.phase }, { on := 9, ground := Ground.phase }, { on := 10, ground := Ground.phase }, { on := 11, ground := Ground.phase }, { on := 12, ground := Ground.phase }, { on := 13, ground := Ground.phase }, { on := 14, ground := Ground.phase }, { on := 15, ground := Ground.phase }], guard := none }) rfl (fun K hK => ?_) (by exact AllReadyH.nil)
          rw [if_pos (by rfl)]
          refine wp_store_row 59 (.tmp 9) (.tmp 32) rfl gy26 XA rfl rfl 59 #[.int .u64 0, .int .u64 0, .int .u64 0, .int .u64 0, .int .u64 0, .int .u64 0, .int .u64 0, .int .u64 0, .int .u64 0, .int .u64 0, .int .u64 0, .int .u64 0, .int .u64 0, .int .u64 0] hb9x28 (by rw [info_row, HXA.out.2.1]) (by rw [HXA.out.2.1]; rfl) HXA.out.2.2 ?_
          have hbx29 := setRow_heap x28 gy26 _ XA _ _ hb9x28
          have hSx29 : Below W1.heap.size W1 (x28.setRow gy26 XA) := below_setRow hSx28 hly26 _
          have hb8x29 := (setRow_other x28 gy26 gy21 XA (by omega)).trans hbx28
          obtain ⟨x29, hx29⟩ : ∃ Z, x28.setRow gy26 XA = Z := ⟨_, rfl⟩
          rw [hx29] at hbx29 hSx29 hb8x29 ⊢
          clear hx29
          refine hK.out _ _ (by (try dsimp only); exact hSx29) (fun hHeld => ?_)
          clear hK K
          simp only [List.setIfInBounds_toArray, List.set_cons_zero, List.set_cons_succ]
          refine wpAnyH_done (by as_aux_lemma => kernel_rfl) ?_ _
          clear hHeld
          simp only [noPanicA]
          go_wp2_with fail
          go_meet
          exact ⟨gy21, gy26, rfl, rfl, hb8x29, hbx29, hSx29⟩
        refine AllReadyH.cons (o := { dst := some 9, op := Op.alloc 59, type := 0, pos := "ref.go:81", after := #[], guard := none }) rfl (fun K hK => ?_) (by exact AllReadyH.nil)
        rw [if_pos (by rfl)]
        go_simp
        obtain ⟨y30, hy30⟩ : ∃ y, (wd).alloc (.cells #[.int .u64 0, .int .u64 0, .int .u64 0, .int .u64 0, .int .u64 0, .int .u64 0, .int .u64 0, .int .u64 0, .int .u64 0, .int .u64 0, .int .u64 0, .int .u64 0, .int .u64 0, .int .u64 0] 59) = y := ⟨_, rfl⟩
        have hby30 : Blk y30 (wd).heap.size 59 #[.int .u64 0, .int .u64 0, .int .u64 0, .int .u64 0, .int .u64 0, .int .u64 0, .int .u64 0, .int .u64 0, .int .u64 0, .int .u64 0, .int .u64 0, .int .u64 0, .int .u64 0, .int .u64 0] := by rw [← hy30]; exact Blk.new _ _ _
        have hzy30 : Below (wd).heap.size (wd) y30 := by rw [← hy30]; exact balloc (Below.refl _ _) _
        have hSy30 : Below W1.heap.size W1 y30 := hS0.trans (hzy30.mono hS0.size)
        have hly30 := hS0.size
        obtain ⟨gy30, hgy30⟩ : ∃ g, (wd).heap.size = g := ⟨_, rfl⟩
        rw [hgy30] at hby30 hly30
        rw [hy30]
        rw [hgy30]
        refine hK.out _ _ (by (try dsimp only); exact hSy30) (fun hHeld => ?_)
        clear hK K
        simp only [List.setIfInBounds_toArray, List.set_cons_zero, List.set_cons_succ]
        refine wpAnyH_ready (rs := [12, 13]) (by as_aux_lemma => kernel_rfl) (by simp) ?_
        refine AllReadyH.cons (o := { dst := some 32, op := Op.call { callee := Callee.value (Operand.func 28), args := #[Operand.tmp 25, Operand.tmp 31], argTypes := #[31, 25] }, type := 59, pos := "ref.go:81", after := #[{ on := 5, ground := Ground.data }, { on := 11, ground := Ground.data }], guard := none }) rfl (fun K hK => ?_) ?_
        · rw [if_pos (by rfl)]
          go_simp
          (go_at_call 28; refine (HRW.out _ hSy30).mono ?_; rintro e z31 ⟨rfl, hzz31⟩)
          have hSz31 : Below W1.heap.size W1 z31 := hSy30.trans (hzz31.mono hSy30.size)
          have hb9z31 := hby30.keep hzz31
          refine hK.out _ _ (by (try dsimp only); exact hSz31) (fun hHeld => ?_)
          clear hK K
          simp only [List.setIfInBounds_toArray, List.set_cons_zero, List.set_cons_succ]
          refine wpAnyH_ready (rs := [13]) (by as_aux_lemma => kernel_rfl) (by simp) ?_
          refine AllReadyH.cons (o := { dst := some 8, op := Op.alloc 59, type := 0, pos := "ref.go:81", after := #[], guard := none }) rfl (fun K hK => ?_) (by exact AllReadyH.nil)
          rw [if_pos (by rfl)]
          go_simp
          obtain ⟨y32, hy32⟩ : ∃ y, (z31).alloc (.cells #[.int .u64 0, .int .u64 0, .int .u64 0, .int .u64 0, .int .u64 0, .int .u64 0, .int .u64 0, .int .u64 0, .int .u64 0, .int .u64 0, .int .u64 0, .int .u64 0, .int .u64 0, .int .u64 0] 59) = y := ⟨_, rfl⟩
          have hby32 : Blk y32 (z31).heap.size 59 #[.int .u64 0, .int .u64 0, .int .u64 0, .int .u64 0, .int .u64 0, .int .u64 0, .int .u64 0, .int .u64 0, .int .u64 0, .int .u64 0, .int .u64 0, .int .u64 0, .int .u64 0, .int .u64 0] := by rw [← hy32]; exact Blk.new _ _ _
          have hzy32 : Below (z31).heap.size (z31) y32 := by rw [← hy32]; exact balloc (Below.refl _ _) _
          have hSy32 : Below W1.heap.size W1 y32 := hSz31.trans (hzy32.mono hSz31.size)
          have hly32 := hSz31.size
          have hny32 : gy30 ≠ (z31).heap.size := by have := hb9z31.lt; omega
          have hb9y32 := hb9z31.keep hzy32
          obtain ⟨gy32, hgy32⟩ : ∃ g, (z31).heap.size = g := ⟨_, rfl⟩
          rw [hgy32] at hby32 hly32 hny32
          rw [hy32]
          rw [hgy32]
          refine hK.out _ _ (by (try dsimp only); exact hSy32) (fun hHeld => ?_)
          clear hK K
          simp only [List.setIfInBounds_toArray, List.set_cons_zero, List.set_cons_succ]
          refine wpAnyH_ready (rs := [15]) (by as_aux_lemma => kernel_rfl) (by simp) ?_
          refine AllReadyH.cons (o := { dst := none, op := Op.store 59 (Operand.tmp 8) (Operand.tmp 24), type := 0, pos := "ref.go:81", after := #[{ on := 13, ground := Ground.data }, { on := 4, ground := Ground.data }, { on := 12, ground := Ground.chain }, { on := 0, ground := Ground.phase }, { on := 1, ground := Ground.phase }, { on := 2, ground := Ground.phase }, { on := 3, ground := Ground.phase }, { on := 4, ground := Ground.phase }, { on := 5, ground := Ground.textOnly Departure.lateStores }, { on := 6, ground := Ground.textOnly Departure.lateStores }, { on := 7, ground := Ground.textOnly Departure.lateStores }, { on := 8, ground := Ground.textOnly Departure.lateStores }, { on := 9, ground := Ground.textOnly Departure.lateStores }, { on := 10, ground := Ground.textOnly Departure.lateStores }, { on := 11, ground := Ground.textOnly Departure.lateStores }, { on := 12, ground := Ground.textOnly Departure.lateStoresUnsure }, { on := 13, ground := Ground.phase }, { on := 14, ground := Ground.phase }], guard := none }) rfl (fun K hK => ?_) (by exact AllReadyH.nil)
          rw [if_pos (by rfl)]
          refine wp_store_row 59 (.tmp 8) (.tmp 24) rfl gy32 RA rfl rfl 59 #[.int .u64 0, .int .u64 0, .int .u64 0, .int .u64 0, .int .u64 0, .int .u64 0, .int .u64 0, .int .u64 0, .int .u64 0, .int .u64 0, .int .u64 0, .int .u64 0, .int .u64 0, .int .u64 0] hby32 (by rw [info_row, HRA.out.2.1]) (by rw [HRA.out.2.1]; rfl) HRA.out.2.2 ?_
          have hbx33 := setRow_heap y32 gy32 _ RA _ _ hby32
          have hSx33 : Below W1.heap.size W1 (y32.setRow gy32 RA) := below_setRow hSy32 hly32 _
          have hb9x33 := (setRow_other y32 gy32 gy30 RA (by omega)).trans hb9y32
          obtain ⟨x33, hx33⟩ : ∃ Z, y32.setRow gy32 RA = Z := ⟨_, rfl⟩
          rw [hx33] at hbx33 hSx33 hb9x33 ⊢
          clear hx33
          refine hK.out _ _ (by (try dsimp only); exact hSx33) (fun hHeld => ?_)
          clear hK K
          simp only [List.setIfInBounds_toArray, List.set_cons_zero, List.set_cons_succ]
          refine wpAnyH_ready (rs := [16]) (by as_aux_lemma => kernel_rfl) (by simp) ?_
          refine AllReadyH.cons (o := { dst := none, op := Op.store 59 (Operand.tmp 9) (Operand.tmp 32), type := 0, pos := "ref.go:81", after := #[{ on := 14, ground := Ground.data }, { on := 12, ground := Ground.data }, { on := 15, ground := Ground.chain }, { on := 0, ground := Ground.phase }, { on := 1, ground := Ground.phase }, { on := 2, ground := Ground.phase }, { on := 3, ground := Ground.phase }, { on := 4, ground := Ground.phase }, { on := 5, ground := Ground.phase }, { on := 6, ground := Ground.phase }, { on := 7, ground := Ground.phase }, { on := 8, ground := Ground.phase }, { on := 9, ground := Ground.phase }, { on := 10, ground := Ground.phase }, { on := 11, ground := Ground.phase }, { on := 12, ground := Ground.phase }, { on := 13, ground := Ground.phase }, { on := 14, ground := Ground.phase }, { on := 15, ground := Ground.phase }], guard := none }) rfl (fun K hK => ?_) (by exact AllReadyH.nil)
          rw [if_pos (by rfl)]
          refine wp_store_row 59 (.tmp 9) (.tmp 32) rfl gy30 XA rfl rfl 59 #[.int .u64 0, .int .u64 0, .int .u64 0, .int .u64 0, .int .u64 0, .int .u64 0, .int .u64 0, .int .u64 0, .int .u64 0, .int .u64 0, .int .u64 0, .int .u64 0, .int .u64 0, .int .u64 0] hb9x33 (by rw [info_row, HXA.out.2.1]) (by rw [HXA.out.2.1]; rfl) HXA.out.2.2 ?_
          have hbx34 := setRow_heap x33 gy30 _ XA _ _ hb9x33
          have hSx34 : Below W1.heap.size W1 (x33.setRow gy30 XA) := below_setRow hSx33 hly30 _
          have hb8x34 := (setRow_other x33 gy30 gy32 XA (by omega)).trans hbx33
          obtain ⟨x34, hx34⟩ : ∃ Z, x33.setRow gy30 XA = Z := ⟨_, rfl⟩
          rw [hx34] at hbx34 hSx34 hb8x34 ⊢
          clear hx34
          refine hK.out _ _ (by (try dsimp only); exact hSx34) (fun hHeld => ?_)
          clear hK K
          simp only [List.setIfInBounds_toArray, List.set_cons_zero, List.set_cons_succ]
          refine wpAnyH_done (by as_aux_lemma => kernel_rfl) ?_ _
          clear hHeld
          simp only [noPanicA]
          go_wp2_with fail
          go_meet
          exact ⟨gy32, gy30, rfl, rfl, hb8x34, hbx34, hSx34⟩
        refine AllReadyH.cons (o := { dst := some 8, op := Op.alloc 59, type := 0, pos := "ref.go:81", after := #[], guard := none }) rfl (fun K hK => ?_) (by exact AllReadyH.nil)
        rw [if_pos (by rfl)]
        go_simp
        obtain ⟨y35, hy35⟩ : ∃ y, (y30).alloc (.cells #[.int .u64 0, .int .u64 0, .int .u64 0, .int .u64 0, .int .u64 0, .int .u64 0, .int .u64 0, .int .u64 0, .int .u64 0, .int .u64 0, .int .u64 0, .int .u64 0, .int .u64 0, .int .u64 0] 59) = y := ⟨_, rfl⟩
        have hby35 : Blk y35 (y30).heap.size 59 #[.int .u64 0, .int .u64 0, .int .u64 0, .int .u64 0, .int .u64 0, .int .u64 0, .int .u64 0, .int .u64 0, .int .u64 0, .int .u64 0, .int .u64 0, .int .u64 0, .int .u64 0, .int .u64 0] := by rw [← hy35]; exact Blk.new _ _ _
        have hzy35 : Below (y30).heap.size (y30) y35 := by rw [← hy35]; exact balloc (Below.refl _ _) _
        have hSy35 : Below W1.heap.size W1 y35 := hSy30.trans (hzy35.mono hSy30.size)
        have hly35 := hSy30.size
        have hny35 : gy30 ≠ (y30).heap.size := by have := hby30.lt; omega
        have hb9y35 := hby30.keep hzy35
        obtain ⟨gy35, hgy35⟩ : ∃ g, (y30).heap.size = g := ⟨_, rfl⟩
        rw [hgy35] at hby35 hly35 hny35
        rw [hy35]
        rw [hgy35]
        refine hK.out _ _ (by (try dsimp only); exact hSy35) (fun hHeld => ?_)
        clear hK K
        simp only [List.setIfInBounds_toArray, List.set_cons_zero, List.set_cons_succ]
        refine wpAnyH_ready (rs := [12]) (by as_aux_lemma => kernel_rfl) (by simp) ?_
        refine AllReadyH.cons (o := { dst := some 32, op := Op.call { callee := Callee.value (Operand.func 28), args := #[Operand.tmp 25, Operand.tmp 31], argTypes := #[31, 25] }, type := 59, pos := "ref.go:81", after := #[{ on := 5, ground := Ground.data }, { on := 11, ground := Ground.data }], guard := none }) rfl (fun K hK => ?_) (by exact AllReadyH.nil)
        rw [if_pos (by rfl)]
        go_simp
        (go_at_call 28; refine (HRW.out _ hSy35).mono ?_; rintro e z36 ⟨rfl, hzz36⟩)
        have hSz36 : Below W1.heap.size W1 z36 := hSy35.trans (hzz36.mono hSy35.size)
        have hb8z36 := hby35.keep hzz36
        have hb9z36 := hb9y35.keep hzz36
        refine hK.out _ _ (by (try dsimp only); exact hSz36) (fun hHeld => ?_)
        clear hK K
        simp only [List.setIfInBounds_toArray, List.set_cons_zero, List.set_cons_succ]
        refine wpAnyH_ready (rs := [15]) (by as_aux_lemma => kernel_rfl) (by simp) ?_
        refine AllReadyH.cons (o := { dst := none, op := Op.store 59 (Operand.tmp 8) (Operand.tmp 24), type := 0, pos := "ref.go:81", after := #[{ on := 13, ground := Ground.data }, { on := 4, ground := Ground.data }, { on := 12, ground := Ground.chain }, { on := 0, ground := Ground.phase }, { on := 1, ground := Ground.phase }, { on := 2, ground := Ground.phase }, { on := 3, ground := Ground.phase }, { on := 4, ground := Ground.phase }, { on := 5, ground := Ground.textOnly Departure.lateStores }, { on := 6, ground := Ground.textOnly Departure.lateStores }, { on := 7, ground := Ground.textOnly Departure.lateStores }, { on := 8, ground := Ground.textOnly Departure.lateStores }, { on := 9, ground := Ground.textOnly Departure.lateStores }, { on := 10, ground := Ground.textOnly Departure.lateStores }, { on := 11, ground := Ground.textOnly Departure.lateStores }, { on := 12, ground := Ground.textOnly Departure.lateStoresUnsure }, { on := 13, ground := Ground.phase }, { on := 14, ground := Ground.phase }], guard := none }) rfl (fun K hK => ?_) (by exact AllReadyH.nil)
        rw [if_pos (by rfl)]
        refine wp_store_row 59 (.tmp 8) (.tmp 24) rfl gy35 RA rfl rfl 59 #[.int .u64 0, .int .u64 0, .int .u64 0, .int .u64 0, .int .u64 0, .int .u64 0, .int .u64 0, .int .u64 0, .int .u64 0, .int .u64 0, .int .u64 0, .int .u64 0, .int .u64 0, .int .u64 0] hb8z36 (by rw [info_row, HRA.out.2.1]) (by rw [HRA.out.2.1]; rfl) HRA.out.2.2 ?_
        have hbx37 := setRow_heap z36 gy35 _ RA _ _ hb8z36
        have hSx37 : Below W1.heap.size W1 (z36.setRow gy35 RA) := below_setRow hSz36 hly35 _
        have hb9x37 := (setRow_other z36 gy35 gy30 RA (by omega)).trans hb9z36
        obtain ⟨x37, hx37⟩ : ∃ Z, z36.setRow gy35 RA = Z := ⟨_, rfl⟩
        rw [hx37] at hbx37 hSx37 hb9x37 ⊢
        clear hx37
        refine hK.out _ _ (by (try dsimp only); exact hSx37) (fun hHeld => ?_)
        clear hK K
        simp only [List.setIfInBounds_toArray, List.set_cons_zero, List.set_cons_succ]
        refine wpAnyH_ready (rs := [16]) (by as_aux_lemma => kernel_rfl) (by simp) ?_
        refine AllReadyH.cons (o := { dst := none, op := Op.store 59 (Operand.tmp 9) (Operand.tmp 32), type := 0, pos := "ref.go:81", after := #[{ on := 14, ground := Ground.data }, { on := 12, ground := Ground.data }, { on := 15, ground := Ground.chain }, { on := 0, ground := Ground.phase }, { on := 1, ground := Ground.phase }, { on := 2, ground := Ground.phase }, { on := 3, ground := Ground.phase }, { on := 4, ground := Ground.phase }, { on := 5, ground := Ground.phase }, { on := 6, ground := Ground.phase }, { on := 7, ground := Ground.phase }, { on := 8, ground := Ground.phase }, { on := 9, ground := Ground.phase }, { on := 10, ground := Ground.phase }, { on := 11, ground := Ground.phase }, { on := 12, ground := Ground.phase }, { on := 13, ground := Ground.phase }, { on := 14, ground := Ground.phase }, { on := 15, ground := Ground.phase }], guard := none }) rfl (fun K hK => ?_) (by exact AllReadyH.nil)
        rw [if_pos (by rfl)]
        refine wp_store_row 59 (.tmp 9) (.tmp 32) rfl gy30 XA rfl rfl 59 #[.int .u64 0, .int .u64 0, .int .u64 0, .int .u64 0, .int .u64 0, .int .u64 0, .int .u64 0, .int .u64 0, .int .u64 0, .int .u64 0, .int .u64 0, .int .u64 0, .int .u64 0, .int .u64 0] hb9x37 (by rw [info_row, HXA.out.2.1]) (by rw [HXA.out.2.1]; rfl) HXA.out.2.2 ?_
        have hbx38 := setRow_heap x37 gy30 _ XA _ _ hb9x37
        have hSx38 : Below W1.heap.size W1 (x37.setRow gy30 XA) := below_setRow hSx37 hly30 _
        have hb8x38 := (setRow_other x37 gy30 gy35 XA (by omega)).trans hbx37
        obtain ⟨x38, hx38⟩ : ∃ Z, x37.setRow gy30 XA = Z := ⟨_, rfl⟩
        rw [hx38] at hbx38 hSx38 hb8x38 ⊢
        clear hx38
        refine hK.out _ _ (by (try dsimp only); exact hSx38) (fun hHeld => ?_)
        clear hK K
        simp only [List.setIfInBounds_toArray, List.set_cons_zero, List.set_cons_succ]
        refine wpAnyH_done (by as_aux_lemma => kernel_rfl) ?_ _
        clear hHeld
        simp only [noPanicA]
        go_wp2_with fail
        go_meet
        exact ⟨gy35, gy30, rfl, rfl, hb8x38, hbx38, hSx38⟩
      case rest =>
        obtain ⟨g8, g9, rfl, rfl, k8, k9, hb9⟩ := hcut
        rw [← HRA.out.1] at k8
        rw [← HXA.out.1] at k9
        have e4 : wc.cell? ⟨g8, 4, none⟩ = some (.int .u64 (lb r.2.1.1 0)) := cell_of_row _ _ 4 _ _ _ k8
        have u4 : wc.cell? ⟨g9, 4, none⟩ = some (.int .u64 (lb x.2.1.1 0)) := cell_of_row _ _ 4 _ _ _ k9
        have e5 : wc.cell? ⟨g8, 5, none⟩ = some (.int .u64 (lb r.2.1.1 1)) := cell_of_row _ _ 5 _ _ _ k8
        have u5 : wc.cell? ⟨g9, 5, none⟩ = some (.int .u64 (lb x.2.1.1 1)) := cell_of_row _ _ 5 _ _ _ k9
        have e6 : wc.cell? ⟨g8, 6, none⟩ = some (.int .u64 (lb r.2.1.1 2)) := cell_of_row _ _ 6 _ _ _ k8
        have u6 : wc.cell? ⟨g9, 6, none⟩ = some (.int .u64 (lb x.2.1.1 2)) := cell_of_row _ _ 6 _ _ _ k9
        have e7 : wc.cell? ⟨g8, 7, none⟩ = some (.int .u64 (lb r.2.1.1 3)) := cell_of_row _ _ 7 _ _ _ k8
        have u7 : wc.cell? ⟨g9, 7, none⟩ = some (.int .u64 (lb x.2.1.1 3)) := cell_of_row _ _ 7 _ _ _ k9
        have e8 : wc.cell? ⟨g8, 8, none⟩ = some (.int .u64 (r.2.1.2 : Nat)) := cell_of_row _ _ 8 _ _ _ k8
        have u8 : wc.cell? ⟨g9, 8, none⟩ = some (.int .u64 (x.2.1.2 : Nat)) := cell_of_row _ _ 8 _ _ _ k9
        have HK := Lib.hid (And.intro k8 (And.intro k9 hb9))
        clear k8 k9 hb9 hS0 q0 q1 q2 q3 q4 q5 q6 q7 q8 q9 q10 q11 q12 q13 cA cB hdl hdl2 HRW
        cases t1
        · go_wp2_with (first
            | (go_at_call 37; (with_reducible refine (HS1.out _).mono ?_); rintro e z1 ⟨rfl, hz1⟩)
            | with_reducible refine And.intro (fun f h => (by cases h)) ?_
            | fail)
          (try simp only [Exit.inBlock, Exit.then])
          go_ret
          exact ⟨by rw [al_false1 (List.mem_of_getElem? HR.out.1) HR.out.2.2.1]; rfl, bstep HA.out.2.2.1 (HK.out.2.2.trans (hz1.mono HK.out.2.2.size))⟩
        · cases t2
          · go_wp2_with (first
              | (go_at_call 37; (with_reducible refine (HS1.out _).mono ?_); rintro e z1 ⟨rfl, hz1⟩; have h8 := HK.out.1.keep hz1; have h9 := HK.out.2.1.keep hz1; have e9 : z1.cell? ⟨g8, 9, none⟩ = some (.int .u64 (lb r.2.2.1 0)) := cell_of_row _ _ 9 _ _ _ h8; have u9 : z1.cell? ⟨g9, 9, none⟩ = some (.int .u64 (lb x.2.2.1 0)) := cell_of_row _ _ 9 _ _ _ h9; have e10 : z1.cell? ⟨g8, 10, none⟩ = some (.int .u64 (lb r.2.2.1 1)) := cell_of_row _ _ 10 _ _ _ h8; have u10 : z1.cell? ⟨g9, 10, none⟩ = some (.int .u64 (lb x.2.2.1 1)) := cell_of_row _ _ 10 _ _ _ h9; have e11 : z1.cell? ⟨g8, 11, none⟩ = some (.int .u64 (lb r.2.2.1 2)) := cell_of_row _ _ 11 _ _ _ h8; have u11 : z1.cell? ⟨g9, 11, none⟩ = some (.int .u64 (lb x.2.2.1 2)) := cell_of_row _ _ 11 _ _ _ h9; have e12 : z1.cell? ⟨g8, 12, none⟩ = some (.int .u64 (lb r.2.2.1 3)) := cell_of_row _ _ 12 _ _ _ h8; have u12 : z1.cell? ⟨g9, 12, none⟩ = some (.int .u64 (lb x.2.2.1 3)) := cell_of_row _ _ 12 _ _ _ h9; have e13 : z1.cell? ⟨g8, 13, none⟩ = some (.int .u64 (r.2.2.2 : Nat)) := cell_of_row _ _ 13 _ _ _ h8; have u13 : z1.cell? ⟨g9, 13, none⟩ = some (.int .u64 (x.2.2.2 : Nat)) := cell_of_row _ _ 13 _ _ _ h9; have H1 := Lib.hid hz1; clear h8 h9 hz1)
              | (go_at_call 37; (with_reducible refine (HS2.out _).mono ?_); rintro e z2 ⟨rfl, hz2⟩; have H2 := Lib.hid hz2; clear hz2)
              | with_reducible refine And.intro (fun f h => (by cases h)) ?_
              | fail)
            (try simp only [Exit.inBlock, Exit.then])
            go_ret
            exact ⟨by rw [al_false1 (List.mem_of_getElem? HR.out.1) HR.out.2.2.1]; rfl, bstep HA.out.2.2.1 ((HK.out.2.2.trans (H1.out.mono HK.out.2.2.size)).trans (H2.out.mono (Nat.le_trans HK.out.2.2.size H1.out.size)))⟩
          · go_wp2_with (first
              | (go_at_call 37; (with_reducible refine (HS1.out _).mono ?_); rintro e z1 ⟨rfl, hz1⟩; have h8 := HK.out.1.keep hz1; have h9 := HK.out.2.1.keep hz1; have e9 : z1.cell? ⟨g8, 9, none⟩ = some (.int .u64 (lb r.2.2.1 0)) := cell_of_row _ _ 9 _ _ _ h8; have u9 : z1.cell? ⟨g9, 9, none⟩ = some (.int .u64 (lb x.2.2.1 0)) := cell_of_row _ _ 9 _ _ _ h9; have e10 : z1.cell? ⟨g8, 10, none⟩ = some (.int .u64 (lb r.2.2.1 1)) := cell_of_row _ _ 10 _ _ _ h8; have u10 : z1.cell? ⟨g9, 10, none⟩ = some (.int .u64 (lb x.2.2.1 1)) := cell_of_row _ _ 10 _ _ _ h9; have e11 : z1.cell? ⟨g8, 11, none⟩ = some (.int .u64 (lb r.2.2.1 2)) := cell_of_row _ _ 11 _ _ _ h8; have u11 : z1.cell? ⟨g9, 11, none⟩ = some (.int .u64 (lb x.2.2.1 2)) := cell_of_row _ _ 11 _ _ _ h9; have e12 : z1.cell? ⟨g8, 12, none⟩ = some (.int .u64 (lb r.2.2.1 3)) := cell_of_row _ _ 12 _ _ _ h8; have u12 : z1.cell? ⟨g9, 12, none⟩ = some (.int .u64 (lb x.2.2.1 3)) := cell_of_row _ _ 12 _ _ _ h9; have e13 : z1.cell? ⟨g8, 13, none⟩ = some (.int .u64 (r.2.2.2 : Nat)) := cell_of_row _ _ 13 _ _ _ h8; have u13 : z1.cell? ⟨g9, 13, none⟩ = some (.int .u64 (x.2.2.2 : Nat)) := cell_of_row _ _ 13 _ _ _ h9; have H1 := Lib.hid hz1; clear h8 h9 hz1)
              | (go_at_call 37; (with_reducible refine (HS2.out _).mono ?_); rintro e z2 ⟨rfl, hz2⟩; have H2 := Lib.hid hz2; clear hz2)
              | with_reducible refine And.intro (fun f h => (by cases h)) ?_
              | fail)
            refine ⟨⟨k + 1, rfl, by have := HR.out.2.2.2.1; omega, fun y hy => ?_, (HK.out.2.2.trans (H1.out.mono HK.out.2.2.size)).trans (H2.out.mono (Nat.le_trans HK.out.2.2.size H1.out.size))⟩, by have := HR.out.2.2.2.1; simp [intOf]; omega⟩
            rw [take_suc HR.out.1] at hy
            rcases List.mem_append.1 hy with h | h
            · exact HR.out.2.1 y h
            · simp at h; subst h; rw [HR.out.2.2.1]; rfl
    · have hkN : N1 = k := by omega
      subst hkN
      have hnl : ¬ ((N1 : Int) < (N1 : Int)) := by omega
      rw [List.take_of_length_le (by rw [HN1.out]; exact Nat.le_refl _)] at hpre
      have H1E := Lib.hid (And.intro hpre hbl)
      clear hpre hbl hlt hk
      go_wp2_with fail
      clear cA cB cAw cBw hnl
      go_loopw [10] (fun i wr => ∃ k : Nat, i = .int .i64 k ∧ k ≤ N2 ∧ (∀ r ∈ l2.take k, okQ l1 up r = true) ∧ Below W1.heap.size W1 wr) (fun i _ => N2 - (intOf i).toNat)
      case atStart => exact ⟨0, rfl, Nat.zero_le _, fun x h => (by cases h), H1E.out.2⟩
      case round =>
        obtain ⟨k, rfl, hk, hpre, hbl⟩ := hrel
        have cA : ∀ Z, Below W1.heap.size W1 Z → Z.cell? ⟨w.heap.size, 0, none⟩ = some (.slice x1 N1 c1) := fun Z q => cell_of_row _ _ 0 _ _ _ (HA.out.2.2.2.1.keep q)
        have cB : ∀ Z, Below W1.heap.size W1 Z → Z.cell? ⟨w.heap.size + 1, 0, none⟩ = some (.slice x2 N2 c2) := fun Z q => cell_of_row _ _ 0 _ _ _ (HA.out.2.2.2.2.keep q)
        have cAw := cA wr hbl
        have cBw := cB wr hbl
        by_cases hlt : k < N2
        · have hltI : (k : Int) < (N2 : Int) := by omega
          have hk0 : ¬ (k : Int) < 0 := by omega
          obtain ⟨r, hr⟩ : ∃ r, l2[k]? = some r := ⟨_, List.getElem?_eq_getElem (by rw [HN2.out]; exact hlt)⟩
          obtain ⟨b, o, c9, e, hbl1, hcell⟩ := OwR.at HA.out.2.1 hr
          injection e with e1 e2 e3
          subst e1
          have hcl : ∀ w', Below W1.heap.size W1 w' → ∀ j, j < 14 → w'.cell? ⟨b, o + k * 14 + j, none⟩ = (rvA r)[j]? := fun w' q j hj => (q.cell (p := ⟨b, o + k * 14 + j, none⟩) hbl1).trans (hcell j hj)
          have q0 : ∀ Z, Below W1.heap.size W1 Z → Z.cell? ⟨b, o + k * 14, none⟩ = some (.int .u64 (lb r.1 0)) := fun Z q => hcl Z q 0 (by omega)
          have q1 : ∀ Z, Below W1.heap.size W1 Z → Z.cell? ⟨b, o + k * 14 + 1, none⟩ = some (.int .u64 (lb r.1 1)) := fun Z q => hcl Z q 1 (by omega)
          have q2 : ∀ Z, Below W1.heap.size W1 Z → Z.cell? ⟨b, o + k * 14 + 2, none⟩ = some (.int .u64 (lb r.1 2)) := fun Z q => hcl Z q 2 (by omega)
          have q3 : ∀ Z, Below W1.heap.size W1 Z → Z.cell? ⟨b, o + k * 14 + 3, none⟩ = some (.int .u64 (lb r.1 3)) := fun Z q => hcl Z q 3 (by omega)
          have q4 : ∀ Z, Below W1.heap.size W1 Z → Z.cell? ⟨b, o + k * 14 + 4, none⟩ = some (.int .u64 (lb r.2.1.1 0)) := fun Z q => hcl Z q 4 (by omega)
          have q5 : ∀ Z, Below W1.heap.size W1 Z → Z.cell? ⟨b, o + k * 14 + 5, none⟩ = some (.int .u64 (lb r.2.1.1 1)) := fun Z q => hcl Z q 5 (by omega)
          have q6 : ∀ Z, Below W1.heap.size W1 Z → Z.cell? ⟨b, o + k * 14 + 6, none⟩ = some (.int .u64 (lb r.2.1.1 2)) := fun Z q => hcl Z q 6 (by omega)
          have q7 : ∀ Z, Below W1.heap.size W1 Z → Z.cell? ⟨b, o + k * 14 + 7, none⟩ = some (.int .u64 (lb r.2.1.1 3)) := fun Z q => hcl Z q 7 (by omega)
          have q8 : ∀ Z, Below W1.heap.size W1 Z → Z.cell? ⟨b, o + k * 14 + 8, none⟩ = some (.int .u64 (r.2.1.2 : Nat)) := fun Z q => hcl Z q 8 (by omega)
          have q9 : ∀ Z, Below W1.heap.size W1 Z → Z.cell? ⟨b, o + k * 14 + 9, none⟩ = some (.int .u64 (lb r.2.2.1 0)) := fun Z q => hcl Z q 9 (by omega)
          have q10 : ∀ Z, Below W1.heap.size W1 Z → Z.cell? ⟨b, o + k * 14 + 10, none⟩ = some (.int .u64 (lb r.2.2.1 1)) := fun Z q => hcl Z q 10 (by omega)
          have q11 : ∀ Z, Below W1.heap.size W1 Z → Z.cell? ⟨b, o + k * 14 + 11, none⟩ = some (.int .u64 (lb r.2.2.1 2)) := fun Z q => hcl Z q 11 (by omega)
          have q12 : ∀ Z, Below W1.heap.size W1 Z → Z.cell? ⟨b, o + k * 14 + 12, none⟩ = some (.int .u64 (lb r.2.2.1 3)) := fun Z q => hcl Z q 12 (by omega)
          have q13 : ∀ Z, Below W1.heap.size W1 Z → Z.cell? ⟨b, o + k * 14 + 13, none⟩ = some (.int .u64 (r.2.2.2 : Nat)) := fun Z q => hcl Z q 13 (by omega)
          have hok := HA.out.2.1.1 r (List.mem_of_getElem? hr)
          obtain ⟨x, hx⟩ : ∃ x, rowN l1 r.1 = x := ⟨_, rfl⟩
          have hokx : okR x := by rw [← hx]; exact okN HA.out.1.1 hok.1
          have HRW := Lib.hid (fun Z (hZ : Below W1.heap.size W1 Z) => (by have h := HROW2.out Z hZ r.1 hok.1; rw [hx] at h; exact h : Calls Try.prog 28 #[.agg #[.slice x1 N1 c1], W r.1] Z fun e w' => e = .returned (.agg #[.int .u64 (lb x.1 0), .int .u64 (lb x.1 1), .int .u64 (lb x.1 2), .int .u64 (lb x.1 3), .int .u64 (lb x.2.1.1 0), .int .u64 (lb x.2.1.1 1), .int .u64 (lb x.2.1.1 2), .int .u64 (lb x.2.1.1 3), .int .u64 (x.2.1.2 : Nat), .int .u64 (lb x.2.2.1 0), .int .u64 (lb x.2.2.1 1), .int .u64 (lb x.2.2.1 2), .int .u64 (lb x.2.2.1 3), .int .u64 (x.2.2.2 : Nat)]) ∧ Below Z.heap.size Z w'))
          obtain ⟨XA, hXA⟩ : ∃ A : Array Value, #[.int .u64 (lb x.1 0), .int .u64 (lb x.1 1), .int .u64 (lb x.1 2), .int .u64 (lb x.1 3), .int .u64 (lb x.2.1.1 0), .int .u64 (lb x.2.1.1 1), .int .u64 (lb x.2.1.1 2), .int .u64 (lb x.2.1.1 3), .int .u64 (x.2.1.2 : Nat), .int .u64 (lb x.2.2.1 0), .int .u64 (lb x.2.2.1 1), .int .u64 (lb x.2.2.1 2), .int .u64 (lb x.2.2.1 3), .int .u64 (x.2.2.2 : Nat)] = A := ⟨_, rfl⟩
          obtain ⟨RA, hRA⟩ : ∃ A : Array Value, #[.int .u64 (lb r.1 0), .int .u64 (lb r.1 1), .int .u64 (lb r.1 2), .int .u64 (lb r.1 3), .int .u64 (lb r.2.1.1 0), .int .u64 (lb r.2.1.1 1), .int .u64 (lb r.2.1.1 2), .int .u64 (lb r.2.1.1 3), .int .u64 (r.2.1.2 : Nat), .int .u64 (lb r.2.2.1 0), .int .u64 (lb r.2.2.1 1), .int .u64 (lb r.2.2.1 2), .int .u64 (lb r.2.2.1 3), .int .u64 (r.2.2.2 : Nat)] = A := ⟨_, rfl⟩
          rw [hXA] at HRW
          have HXA := Lib.hid (And.intro hXA (show XA.size = 14 ∧ XA.all (·.oneCell') = true by rw [← hXA]; exact ⟨rfl, one14 _ _ _ _ _ _ _ _ _ _ _ _ _ _⟩))
          have HRA := Lib.hid (And.intro hRA (show RA.size = 14 ∧ RA.all (·.oneCell') = true by rw [← hRA]; exact ⟨rfl, one14 _ _ _ _ _ _ _ _ _ _ _ _ _ _⟩))
          clear hXA hRA
          obtain ⟨t1, ht1⟩ : ∃ t, smP r.2.1 x.2.1 up = t := ⟨_, rfl⟩
          obtain ⟨t2, ht2⟩ : ∃ t, smP r.2.2 x.2.2 up = t := ⟨_, rfl⟩
          have HS1 := Lib.hid (fun Z => (by have h := rsame_any9 r.2.1.1 r.2.1.2 x.2.1.1 x.2.1.2 up hok.2.1.2 hup hok.2.1.1 hokx.2.1.1 Z; rw [show smB r.2.1.1 r.2.1.2 x.2.1.1 x.2.1.2 up = t1 from ht1] at h; exact h : Calls Try.prog 37 #[.agg #[.int .u64 (lb r.2.1.1 0), .int .u64 (lb r.2.1.1 1), .int .u64 (lb r.2.1.1 2), .int .u64 (lb r.2.1.1 3), .int .u64 (r.2.1.2 : Nat)], .agg #[.int .u64 (lb x.2.1.1 0), .int .u64 (lb x.2.1.1 1), .int .u64 (lb x.2.1.1 2), .int .u64 (lb x.2.1.1 3), .int .u64 (x.2.1.2 : Nat)], .int .u64 (up : Nat)] Z fun e w' => e = .returned (.bool t1) ∧ Below Z.heap.size Z w'))
          have HS2 := Lib.hid (fun Z => (by have h := rsame_any9 r.2.2.1 r.2.2.2 x.2.2.1 x.2.2.2 up hok.2.2.2 hup hok.2.2.1 hokx.2.2.1 Z; rw [show smB r.2.2.1 r.2.2.2 x.2.2.1 x.2.2.2 up = t2 from ht2] at h; exact h : Calls Try.prog 37 #[.agg #[.int .u64 (lb r.2.2.1 0), .int .u64 (lb r.2.2.1 1), .int .u64 (lb r.2.2.1 2), .int .u64 (lb r.2.2.1 3), .int .u64 (r.2.2.2 : Nat)], .agg #[.int .u64 (lb x.2.2.1 0), .int .u64 (lb x.2.2.1 1), .int .u64 (lb x.2.2.1 2), .int .u64 (lb x.2.2.1 3), .int .u64 (x.2.2.2 : Nat)], .int .u64 (up : Nat)] Z fun e w' => e = .returned (.bool t2) ∧ Below Z.heap.size Z w'))
          have g1 : IntKind.i64.wrap ((k : Int) + 1) = ((k + 1 : Nat) : Int) := IntWalk.i64_in _ (by have := HL2.out; omega)
          have hQ : okQ l1 up r = (t1 && t2) := by unfold okQ; rw [hx, ht1, ht2]
          have hdl : decide (N2 ≤ k) = false := decide_eq_false (by omega)
          have hdl2 : decide ((N2 : Int) ≤ (k : Int)) = false := decide_eq_false (by omega)
          have HR := Lib.hid (And.intro hr (And.intro hpre (And.intro hQ (And.intro hlt hbl))))
          have hS0 : Below W1.heap.size W1 wr.drew := below_drew' hbl
          clear hcl hcell hr hpre hok hokx hbl1 e2 e3 hx ht1 ht2 hQ hbl
          go_upto_region 10 with fail
          go_cut [11, 12] from 49 to 84 (fun p q wx => ∃ g8 g9 : Nat, p = .pointer (some ⟨g8, 0, none⟩) ∧ q = .pointer (some ⟨g9, 0, none⟩) ∧ Blk wx g8 59 RA ∧ Blk wx g9 59 XA ∧ Below W1.heap.size W1 wx)
          case first =>
            have hHd := hS0
            refine wp_noPanicA ?_
            refine wp_region_held_drew (S := fun w' => Below W1.heap.size W1 w') (by as_aux_lemma => kernel_rfl) hHd (fun hHeld => ?_)
            simp only [List.size_toArray, List.length_cons, List.length_nil, Nat.reduceAdd, Array.replicate_succ, Array.replicate_zero, List.push_toArray, List.nil_append, List.cons_append]
            obtain ⟨wd, hwd⟩ : ∃ X, wr.drew = X := ⟨_, rfl⟩
            rw [hwd] at hS0 hHeld ⊢
            clear hHd hwd cAw cBw HS1 HS2 g1 hltI
            refine wpAnyH_take (i := 0) (oi := { dst := some 56, op := Op.fieldAddr 31 (Operand.tmp 4) 0, type := 0, pos := "ref.go:87", after := #[], guard := none }) (v := ?vq0b) rfl (by as_aux_lemma => kernel_rfl) (by as_aux_lemma => kernel_rfl) (by as_aux_lemma => kernel_rfl) (fun _ _ _ h => h) (Or.inl ⟨by rfl, ?yq0b⟩) (by assumption) ?rq0b
            case yq0b => (intro w hSw; (try dsimp only at hSw); go_simp <;> with_reducible rfl)
            simp only [Act.put, List.setIfInBounds_toArray, List.set_cons_zero, List.set_cons_succ]
            refine wpAnyH_take (i := 1) (oi := { dst := some 57, op := Op.load 29 (Operand.tmp 56), type := 29, pos := "ref.go:87", after := #[{ on := 0, ground := Ground.data }], guard := none }) (v := ?vq1b) rfl (by as_aux_lemma => kernel_rfl) (by as_aux_lemma => kernel_rfl) (by as_aux_lemma => kernel_rfl) (fun _ _ _ h => h) (Or.inl ⟨by rfl, ?yq1b⟩) (by assumption) ?rq1b
            case yq1b => (intro w hSw; (try dsimp only at hSw); go_simp <;> with_reducible rfl)
            simp only [Act.put, List.setIfInBounds_toArray, List.set_cons_zero, List.set_cons_succ]
            refine wpAnyH_take (i := 2) (oi := { dst := some 58, op := Op.move (Operand.tmp 10), type := 3, pos := "ref.go:87", after := #[], guard := none }) (v := ?vq2b) rfl (by as_aux_lemma => kernel_rfl) (by as_aux_lemma => kernel_rfl) (by as_aux_lemma => kernel_rfl) (fun _ _ _ h => h) (Or.inl ⟨by rfl, ?yq2b⟩) (by assumption) ?rq2b
            case yq2b => (intro w hSw; (try dsimp only at hSw); go_simp <;> with_reducible rfl)
            simp only [Act.put, List.setIfInBounds_toArray, List.set_cons_zero, List.set_cons_succ]
            refine wpAnyH_take (i := 3) (oi := { dst := some 59, op := Op.indexAddr 29 (Operand.tmp 57) (Operand.tmp 58), type := 0, pos := "ref.go:87", after := #[{ on := 1, ground := Ground.data }, { on := 2, ground := Ground.data }], guard := none }) (v := ?vq3b) rfl (by as_aux_lemma => kernel_rfl) (by as_aux_lemma => kernel_rfl) (by as_aux_lemma => kernel_rfl) (fun _ _ _ h => h) (Or.inl ⟨by rfl, ?yq3b⟩) (by assumption) ?rq3b
            case yq3b => (intro w hSw; (try dsimp only at hSw); go_simp <;> with_reducible rfl)
            simp only [Act.put, List.setIfInBounds_toArray, List.set_cons_zero, List.set_cons_succ]
            refine wpAnyH_take (i := 4) (oi := { dst := some 60, op := Op.load 59 (Operand.tmp 59), type := 59, pos := "ref.go:87", after := #[{ on := 3, ground := Ground.data }], guard := none }) (v := ?vq4b) rfl (by as_aux_lemma => kernel_rfl) (by as_aux_lemma => kernel_rfl) (by as_aux_lemma => kernel_rfl) (fun _ _ _ h => h) (Or.inl ⟨by rfl, ?yq4b⟩) (by assumption) ?rq4b
            case yq4b => (intro w hSw; (try dsimp only at hSw); go_simp <;> with_reducible rfl)
            simp only [Act.put, List.setIfInBounds_toArray, List.set_cons_zero, List.set_cons_succ]
            refine wpAnyH_take (i := 5) (oi := { dst := some 61, op := Op.load 31 (Operand.tmp 3), type := 31, pos := "ref.go:87", after := #[], guard := none }) (v := ?vq5b) rfl (by as_aux_lemma => kernel_rfl) (by as_aux_lemma => kernel_rfl) (by as_aux_lemma => kernel_rfl) (fun _ _ _ h => h) (Or.inl ⟨by rfl, ?yq5b⟩) (by assumption) ?rq5b
            case yq5b => (intro w hSw; (try dsimp only at hSw); go_simp <;> with_reducible rfl)
            simp only [Act.put, List.setIfInBounds_toArray, List.set_cons_zero, List.set_cons_succ]
            refine wpAnyH_take (i := 6) (oi := { dst := some 62, op := Op.fieldAddr 31 (Operand.tmp 4) 0, type := 0, pos := "ref.go:87", after := #[], guard := none }) (v := ?vq6b) rfl (by as_aux_lemma => kernel_rfl) (by as_aux_lemma => kernel_rfl) (by as_aux_lemma => kernel_rfl) (fun _ _ _ h => h) (Or.inl ⟨by rfl, ?yq6b⟩) (by assumption) ?rq6b
            case yq6b => (intro w hSw; (try dsimp only at hSw); go_simp <;> with_reducible rfl)
            simp only [Act.put, List.setIfInBounds_toArray, List.set_cons_zero, List.set_cons_succ]
            refine wpAnyH_take (i := 7) (oi := { dst := some 63, op := Op.load 29 (Operand.tmp 62), type := 29, pos := "ref.go:87", after := #[{ on := 6, ground := Ground.data }], guard := none }) (v := ?vq7b) rfl (by as_aux_lemma => kernel_rfl) (by as_aux_lemma => kernel_rfl) (by as_aux_lemma => kernel_rfl) (fun _ _ _ h => h) (Or.inl ⟨by rfl, ?yq7b⟩) (by assumption) ?rq7b
            case yq7b => (intro w hSw; (try dsimp only at hSw); go_simp <;> with_reducible rfl)
            simp only [Act.put, List.setIfInBounds_toArray, List.set_cons_zero, List.set_cons_succ]
            refine wpAnyH_take (i := 8) (oi := { dst := some 64, op := Op.move (Operand.tmp 10), type := 3, pos := "ref.go:87", after := #[], guard := none }) (v := ?vq8b) rfl (by as_aux_lemma => kernel_rfl) (by as_aux_lemma => kernel_rfl) (by as_aux_lemma => kernel_rfl) (fun _ _ _ h => h) (Or.inl ⟨by rfl, ?yq8b⟩) (by assumption) ?rq8b
            case yq8b => (intro w hSw; (try dsimp only at hSw); go_simp <;> with_reducible rfl)
            simp only [Act.put, List.setIfInBounds_toArray, List.set_cons_zero, List.set_cons_succ]
            refine wpAnyH_take (i := 9) (oi := { dst := some 65, op := Op.indexAddr 29 (Operand.tmp 63) (Operand.tmp 64), type := 0, pos := "ref.go:87", after := #[{ on := 7, ground := Ground.data }, { on := 8, ground := Ground.data }], guard := none }) (v := ?vq9b) rfl (by as_aux_lemma => kernel_rfl) (by as_aux_lemma => kernel_rfl) (by as_aux_lemma => kernel_rfl) (fun _ _ _ h => h) (Or.inl ⟨by rfl, ?yq9b⟩) (by assumption) ?rq9b
            case yq9b => (intro w hSw; (try dsimp only at hSw); go_simp <;> with_reducible rfl)
            simp only [Act.put, List.setIfInBounds_toArray, List.set_cons_zero, List.set_cons_succ]
            refine wpAnyH_take (i := 10) (oi := { dst := some 66, op := Op.fieldAddr 59 (Operand.tmp 65) 0, type := 0, pos := "ref.go:87", after := #[{ on := 9, ground := Ground.data }], guard := none }) (v := ?vq10b) rfl (by as_aux_lemma => kernel_rfl) (by as_aux_lemma => kernel_rfl) (by as_aux_lemma => kernel_rfl) (fun _ _ _ h => h) (Or.inl ⟨by rfl, ?yq10b⟩) (by assumption) ?rq10b
            case yq10b => (intro w hSw; (try dsimp only at hSw); go_simp <;> with_reducible rfl)
            simp only [Act.put, List.setIfInBounds_toArray, List.set_cons_zero, List.set_cons_succ]
            refine wpAnyH_take (i := 11) (oi := { dst := some 67, op := Op.load 25 (Operand.tmp 66), type := 25, pos := "ref.go:87", after := #[{ on := 10, ground := Ground.data }], guard := none }) (v := ?vq11b) rfl (by as_aux_lemma => kernel_rfl) (by as_aux_lemma => kernel_rfl) (by as_aux_lemma => kernel_rfl) (fun _ _ _ h => h) (Or.inl ⟨by rfl, ?yq11b⟩) (by assumption) ?rq11b
            case yq11b => (intro w hSw; (try dsimp only at hSw); go_simp <;> with_reducible rfl)
            simp only [Act.put, List.setIfInBounds_toArray, List.set_cons_zero, List.set_cons_succ]
            rw [HRA.out.1]
            refine wpAnyH_ready (rs := [12, 13, 14]) (by as_aux_lemma => kernel_rfl) (by simp) ?_
            refine AllReadyH.cons (o := { dst := some 68, op := Op.call { callee := Callee.value (Operand.func 28), args := #[Operand.tmp 61, Operand.tmp 67], argTypes := #[31, 25] }, type := 59, pos := "ref.go:87", after := #[{ on := 5, ground := Ground.data }, { on := 11, ground := Ground.data }], guard := none }) rfl (fun K hK => ?_) ?_
            · rw [if_pos (by rfl)]
              go_simp
              (go_at_call 28; refine (HRW.out _ hS0).mono ?_; rintro e z12 ⟨rfl, hzz12⟩)
              have hSz12 : Below W1.heap.size W1 z12 := hS0.trans (hzz12.mono hS0.size)
              refine hK.out _ _ (by (try dsimp only); exact hSz12) (fun hHeld => ?_)
              clear hK K
              simp only [List.setIfInBounds_toArray, List.set_cons_zero, List.set_cons_succ]
              refine wpAnyH_ready (rs := [13, 14]) (by as_aux_lemma => kernel_rfl) (by simp) ?_
              refine AllReadyH.cons (o := { dst := some 11, op := Op.alloc 59, type := 0, pos := "ref.go:87", after := #[], guard := none }) rfl (fun K hK => ?_) ?_
              · rw [if_pos (by rfl)]
                go_simp
                obtain ⟨y13, hy13⟩ : ∃ y, (z12).alloc (.cells #[.int .u64 0, .int .u64 0, .int .u64 0, .int .u64 0, .int .u64 0, .int .u64 0, .int .u64 0, .int .u64 0, .int .u64 0, .int .u64 0, .int .u64 0, .int .u64 0, .int .u64 0, .int .u64 0] 59) = y := ⟨_, rfl⟩
                have hby13 : Blk y13 (z12).heap.size 59 #[.int .u64 0, .int .u64 0, .int .u64 0, .int .u64 0, .int .u64 0, .int .u64 0, .int .u64 0, .int .u64 0, .int .u64 0, .int .u64 0, .int .u64 0, .int .u64 0, .int .u64 0, .int .u64 0] := by rw [← hy13]; exact Blk.new _ _ _
                have hzy13 : Below (z12).heap.size (z12) y13 := by rw [← hy13]; exact balloc (Below.refl _ _) _
                have hSy13 : Below W1.heap.size W1 y13 := hSz12.trans (hzy13.mono hSz12.size)
                have hly13 := hSz12.size
                obtain ⟨gy13, hgy13⟩ : ∃ g, (z12).heap.size = g := ⟨_, rfl⟩
                rw [hgy13] at hby13 hly13
                rw [hy13]
                rw [hgy13]
                refine hK.out _ _ (by (try dsimp only); exact hSy13) (fun hHeld => ?_)
                clear hK K
                simp only [List.setIfInBounds_toArray, List.set_cons_zero, List.set_cons_succ]
                refine wpAnyH_ready (rs := [14]) (by as_aux_lemma => kernel_rfl) (by simp) ?_
                refine AllReadyH.cons (o := { dst := some 12, op := Op.alloc 59, type := 0, pos := "ref.go:87", after := #[], guard := none }) rfl (fun K hK => ?_) (by exact AllReadyH.nil)
                rw [if_pos (by rfl)]
                go_simp
                obtain ⟨y14, hy14⟩ : ∃ y, (y13).alloc (.cells #[.int .u64 0, .int .u64 0, .int .u64 0, .int .u64 0, .int .u64 0, .int .u64 0, .int .u64 0, .int .u64 0, .int .u64 0, .int .u64 0, .int .u64 0, .int .u64 0, .int .u64 0, .int .u64 0] 59) = y := ⟨_, rfl⟩
                have hby14 : Blk y14 (y13).heap.size 59 #[.int .u64 0, .int .u64 0, .int .u64 0, .int .u64 0, .int .u64 0, .int .u64 0, .int .u64 0, .int .u64 0, .int .u64 0, .int .u64 0, .int .u64 0, .int .u64 0, .int .u64 0, .int .u64 0] := by rw [← hy14]; exact Blk.new _ _ _
                have hzy14 : Below (y13).heap.size (y13) y14 := by rw [← hy14]; exact balloc (Below.refl _ _) _
                have hSy14 : Below W1.heap.size W1 y14 := hSy13.trans (hzy14.mono hSy13.size)
                have hly14 := hSy13.size
                have hny14 : gy13 ≠ (y13).heap.size := by have := hby13.lt; omega
                have hb8y14 := hby13.keep hzy14
                obtain ⟨gy14, hgy14⟩ : ∃ g, (y13).heap.size = g := ⟨_, rfl⟩
                rw [hgy14] at hby14 hly14 hny14
                rw [hy14]
                rw [hgy14]
                refine hK.out _ _ (by (try dsimp only); exact hSy14) (fun hHeld => ?_)
                clear hK K
                simp only [List.setIfInBounds_toArray, List.set_cons_zero, List.set_cons_succ]
                refine wpAnyH_ready (rs := [15]) (by as_aux_lemma => kernel_rfl) (by simp) ?_
                refine AllReadyH.cons (o := { dst := none, op := Op.store 59 (Operand.tmp 11) (Operand.tmp 60), type := 0, pos := "ref.go:87", after := #[{ on := 13, ground := Ground.data }, { on := 4, ground := Ground.data }, { on := 12, ground := Ground.chain }, { on := 0, ground := Ground.phase }, { on := 1, ground := Ground.phase }, { on := 2, ground := Ground.phase }, { on := 3, ground := Ground.phase }, { on := 4, ground := Ground.phase }, { on := 5, ground := Ground.textOnly Departure.lateStores }, { on := 6, ground := Ground.textOnly Departure.lateStores }, { on := 7, ground := Ground.textOnly Departure.lateStores }, { on := 8, ground := Ground.textOnly Departure.lateStores }, { on := 9, ground := Ground.textOnly Departure.lateStores }, { on := 10, ground := Ground.textOnly Departure.lateStores }, { on := 11, ground := Ground.textOnly Departure.lateStores }, { on := 12, ground := Ground.textOnly Departure.lateStoresUnsure }, { on := 13, ground := Ground.phase }, { on := 14, ground := Ground.phase }], guard := none }) rfl (fun K hK => ?_) (by exact AllReadyH.nil)
                rw [if_pos (by rfl)]
                refine wp_store_row 59 (.tmp 11) (.tmp 60) rfl gy13 RA rfl rfl 59 #[.int .u64 0, .int .u64 0, .int .u64 0, .int .u64 0, .int .u64 0, .int .u64 0, .int .u64 0, .int .u64 0, .int .u64 0, .int .u64 0, .int .u64 0, .int .u64 0, .int .u64 0, .int .u64 0] hb8y14 (by rw [info_row, HRA.out.2.1]) (by rw [HRA.out.2.1]; rfl) HRA.out.2.2 ?_
                have hbx15 := setRow_heap y14 gy13 _ RA _ _ hb8y14
                have hSx15 : Below W1.heap.size W1 (y14.setRow gy13 RA) := below_setRow hSy14 hly13 _
                have hb9x15 := (setRow_other y14 gy13 gy14 RA (by omega)).trans hby14
                obtain ⟨x15, hx15⟩ : ∃ Z, y14.setRow gy13 RA = Z := ⟨_, rfl⟩
                rw [hx15] at hbx15 hSx15 hb9x15 ⊢
                clear hx15
                refine hK.out _ _ (by (try dsimp only); exact hSx15) (fun hHeld => ?_)
                clear hK K
                simp only [List.setIfInBounds_toArray, List.set_cons_zero, List.set_cons_succ]
                refine wpAnyH_ready (rs := [16]) (by as_aux_lemma => kernel_rfl) (by simp) ?_
                refine AllReadyH.cons (o := { dst := none, op := Op.store 59 (Operand.tmp 12) (Operand.tmp 68), type := 0, pos := "ref.go:87", after := #[{ on := 14, ground := Ground.data }, { on := 12, ground := Ground.data }, { on := 15, ground := Ground.chain }, { on := 0, ground := Ground.phase }, { on := 1, ground := Ground.phase }, { on := 2, ground := Ground.phase }, { on := 3, ground := Ground.phase }, { on := 4, ground := Ground.phase }, { on := 5, ground := Ground.phase }, { on := 6, ground := Ground.phase }, { on := 7, ground := Ground.phase }, { on := 8, ground := Ground.phase }, { on := 9, ground := Ground.phase }, { on := 10, ground := Ground.phase }, { on := 11, ground := Ground.phase }, { on := 12, ground := Ground.phase }, { on := 13, ground := Ground.phase }, { on := 14, ground := Ground.phase }, { on := 15, ground := Ground.phase }], guard := none }) rfl (fun K hK => ?_) (by exact AllReadyH.nil)
                rw [if_pos (by rfl)]
                refine wp_store_row 59 (.tmp 12) (.tmp 68) rfl gy14 XA rfl rfl 59 #[.int .u64 0, .int .u64 0, .int .u64 0, .int .u64 0, .int .u64 0, .int .u64 0, .int .u64 0, .int .u64 0, .int .u64 0, .int .u64 0, .int .u64 0, .int .u64 0, .int .u64 0, .int .u64 0] hb9x15 (by rw [info_row, HXA.out.2.1]) (by rw [HXA.out.2.1]; rfl) HXA.out.2.2 ?_
                have hbx16 := setRow_heap x15 gy14 _ XA _ _ hb9x15
                have hSx16 : Below W1.heap.size W1 (x15.setRow gy14 XA) := below_setRow hSx15 hly14 _
                have hb8x16 := (setRow_other x15 gy14 gy13 XA (by omega)).trans hbx15
                obtain ⟨x16, hx16⟩ : ∃ Z, x15.setRow gy14 XA = Z := ⟨_, rfl⟩
                rw [hx16] at hbx16 hSx16 hb8x16 ⊢
                clear hx16
                refine hK.out _ _ (by (try dsimp only); exact hSx16) (fun hHeld => ?_)
                clear hK K
                simp only [List.setIfInBounds_toArray, List.set_cons_zero, List.set_cons_succ]
                refine wpAnyH_done (by as_aux_lemma => kernel_rfl) ?_ _
                clear hHeld
                simp only [noPanicA]
                go_wp2_with fail
                go_meet
                exact ⟨gy13, gy14, rfl, rfl, hb8x16, hbx16, hSx16⟩
              refine AllReadyH.cons (o := { dst := some 12, op := Op.alloc 59, type := 0, pos := "ref.go:87", after := #[], guard := none }) rfl (fun K hK => ?_) (by exact AllReadyH.nil)
              rw [if_pos (by rfl)]
              go_simp
              obtain ⟨y17, hy17⟩ : ∃ y, (z12).alloc (.cells #[.int .u64 0, .int .u64 0, .int .u64 0, .int .u64 0, .int .u64 0, .int .u64 0, .int .u64 0, .int .u64 0, .int .u64 0, .int .u64 0, .int .u64 0, .int .u64 0, .int .u64 0, .int .u64 0] 59) = y := ⟨_, rfl⟩
              have hby17 : Blk y17 (z12).heap.size 59 #[.int .u64 0, .int .u64 0, .int .u64 0, .int .u64 0, .int .u64 0, .int .u64 0, .int .u64 0, .int .u64 0, .int .u64 0, .int .u64 0, .int .u64 0, .int .u64 0, .int .u64 0, .int .u64 0] := by rw [← hy17]; exact Blk.new _ _ _
              have hzy17 : Below (z12).heap.size (z12) y17 := by rw [← hy17]; exact balloc (Below.refl _ _) _
              have hSy17 : Below W1.heap.size W1 y17 := hSz12.trans (hzy17.mono hSz12.size)
              have hly17 := hSz12.size
              obtain ⟨gy17, hgy17⟩ : ∃ g, (z12).heap.size = g := ⟨_, rfl⟩
              rw [hgy17] at hby17 hly17
              rw [hy17]
              rw [hgy17]
              refine hK.out _ _ (by (try dsimp only); exact hSy17) (fun hHeld => ?_)
              clear hK K
              simp only [List.setIfInBounds_toArray, List.set_cons_zero, List.set_cons_succ]
              refine wpAnyH_ready (rs := [13]) (by as_aux_lemma => kernel_rfl) (by simp) ?_
              refine AllReadyH.cons (o := { dst := some 11, op := Op.alloc 59, type := 0, pos := "ref.go:87", after := #[], guard := none }) rfl (fun K hK => ?_) (by exact AllReadyH.nil)
              rw [if_pos (by rfl)]
              go_simp
              obtain ⟨y18, hy18⟩ : ∃ y, (y17).alloc (.cells #[.int .u64 0, .int .u64 0, .int .u64 0, .int .u64 0, .int .u64 0, .int .u64 0, .int .u64 0, .int .u64 0, .int .u64 0, .int .u64 0, .int .u64 0, .int .u64 0, .int .u64 0, .int .u64 0] 59) = y := ⟨_, rfl⟩
              have hby18 : Blk y18 (y17).heap.size 59 #[.int .u64 0, .int .u64 0, .int .u64 0, .int .u64 0, .int .u64 0, .int .u64 0, .int .u64 0, .int .u64 0, .int .u64 0, .int .u64 0, .int .u64 0, .int .u64 0, .int .u64 0, .int .u64 0] := by rw [← hy18]; exact Blk.new _ _ _
              have hzy18 : Below (y17).heap.size (y17) y18 := by rw [← hy18]; exact balloc (Below.refl _ _) _
              have hSy18 : Below W1.heap.size W1 y18 := hSy17.trans (hzy18.mono hSy17.size)
              have hly18 := hSy17.size
              have hny18 : gy17 ≠ (y17).heap.size := by have := hby17.lt; omega
              have hb9y18 := hby17.keep hzy18
              obtain ⟨gy18, hgy18⟩ : ∃ g, (y17).heap.size = g := ⟨_, rfl⟩
              rw [hgy18] at hby18 hly18 hny18
              rw [hy18]
              rw [hgy18]
              refine hK.out _ _ (by (try dsimp only); exact hSy18) (fun hHeld => ?_)
              clear hK K
              simp only [List.setIfInBounds_toArray, List.set_cons_zero, List.set_cons_succ]
              refine wpAnyH_ready (rs := [15]) (by as_aux_lemma => kernel_rfl) (by simp) ?_
              refine AllReadyH.cons (o := { dst := none, op := Op.store 59 (Operand.tmp 11) (Operand.tmp 60), type := 0, pos := "ref.go:87", after := #[{ on := 13, ground := Ground.data }, { on := 4, ground := Ground.data }, { on := 12, ground := Ground.chain }, { on := 0, ground := Ground.phase }, { on := 1, ground := Ground.phase }, { on := 2, ground := Ground.phase }, { on := 3, ground := Ground.phase }, { on := 4, ground := Ground.phase }, { on := 5, ground := Ground.textOnly Departure.lateStores }, { on := 6, ground := Ground.textOnly Departure.lateStores }, { on := 7, ground := Ground.textOnly Departure.lateStores }, { on := 8, ground := Ground.textOnly Departure.lateStores }, { on := 9, ground := Ground.textOnly Departure.lateStores }, { on := 10, ground := Ground.textOnly Departure.lateStores }, { on := 11, ground := Ground.textOnly Departure.lateStores }, { on := 12, ground := Ground.textOnly Departure.lateStoresUnsure }, { on := 13, ground := Ground.phase }, { on := 14, ground := Ground.phase }], guard := none }) rfl (fun K hK => ?_) (by exact AllReadyH.nil)
              rw [if_pos (by rfl)]
              refine wp_store_row 59 (.tmp 11) (.tmp 60) rfl gy18 RA rfl rfl 59 #[.int .u64 0, .int .u64 0, .int .u64 0, .int .u64 0, .int .u64 0, .int .u64 0, .int .u64 0, .int .u64 0, .int .u64 0, .int .u64 0, .int .u64 0, .int .u64 0, .int .u64 0, .int .u64 0] hby18 (by rw [info_row, HRA.out.2.1]) (by rw [HRA.out.2.1]; rfl) HRA.out.2.2 ?_
              have hbx19 := setRow_heap y18 gy18 _ RA _ _ hby18
              have hSx19 : Below W1.heap.size W1 (y18.setRow gy18 RA) := below_setRow hSy18 hly18 _
              have hb9x19 := (setRow_other y18 gy18 gy17 RA (by omega)).trans hb9y18
              obtain ⟨x19, hx19⟩ : ∃ Z, y18.setRow gy18 RA = Z := ⟨_, rfl⟩
              rw [hx19] at hbx19 hSx19 hb9x19 ⊢
              clear hx19
              refine hK.out _ _ (by (try dsimp only); exact hSx19) (fun hHeld => ?_)
              clear hK K
              simp only [List.setIfInBounds_toArray, List.set_cons_zero, List.set_cons_succ]
              refine wpAnyH_ready (rs := [16]) (by as_aux_lemma => kernel_rfl) (by simp) ?_
              refine AllReadyH.cons (o := { dst := none, op := Op.store 59 (Operand.tmp 12) (Operand.tmp 68), type := 0, pos := "ref.go:87", after := #[{ on := 14, ground := Ground.data }, { on := 12, ground := Ground.data }, { on := 15, ground := Ground.chain }, { on := 0, ground := Ground.phase }, { on := 1, ground := Ground.phase }, { on := 2, ground := Ground.phase }, { on := 3, ground := Ground.phase }, { on := 4, ground := Ground.phase }, { on := 5, ground := Ground.phase }, { on := 6, ground := Ground.phase }, { on := 7, ground := Ground.phase }, { on := 8, ground := Ground.phase }, { on := 9, ground := Ground.phase }, { on := 10, ground := Ground.phase }, { on := 11, ground := Ground.phase }, { on := 12, ground := Ground.phase }, { on := 13, ground := Ground.phase }, { on := 14, ground := Ground.phase }, { on := 15, ground := Ground.phase }], guard := none }) rfl (fun K hK => ?_) (by exact AllReadyH.nil)
              rw [if_pos (by rfl)]
              refine wp_store_row 59 (.tmp 12) (.tmp 68) rfl gy17 XA rfl rfl 59 #[.int .u64 0, .int .u64 0, .int .u64 0, .int .u64 0, .int .u64 0, .int .u64 0, .int .u64 0, .int .u64 0, .int .u64 0, .int .u64 0, .int .u64 0, .int .u64 0, .int .u64 0, .int .u64 0] hb9x19 (by rw [info_row, HXA.out.2.1]) (by rw [HXA.out.2.1]; rfl) HXA.out.2.2 ?_
              have hbx20 := setRow_heap x19 gy17 _ XA _ _ hb9x19
              have hSx20 : Below W1.heap.size W1 (x19.setRow gy17 XA) := below_setRow hSx19 hly17 _
              have hb8x20 := (setRow_other x19 gy17 gy18 XA (by omega)).trans hbx19
              obtain ⟨x20, hx20⟩ : ∃ Z, x19.setRow gy17 XA = Z := ⟨_, rfl⟩
              rw [hx20] at hbx20 hSx20 hb8x20 ⊢
              clear hx20
              refine hK.out _ _ (by (try dsimp only); exact hSx20) (fun hHeld => ?_)
              clear hK K
              simp only [List.setIfInBounds_toArray, List.set_cons_zero, List.set_cons_succ]
              refine wpAnyH_done (by as_aux_lemma => kernel_rfl) ?_ _
              clear hHeld
              simp only [noPanicA]
              go_wp2_with fail
              go_meet
              exact ⟨gy18, gy17, rfl, rfl, hb8x20, hbx20, hSx20⟩
            refine AllReadyH.cons (o := { dst := some 11, op := Op.alloc 59, type := 0, pos := "ref.go:87", after := #[], guard := none }) rfl (fun K hK => ?_) ?_
            · rw [if_pos (by rfl)]
              go_simp
              obtain ⟨y21, hy21⟩ : ∃ y, (wd).alloc (.cells #[.int .u64 0, .int .u64 0, .int .u64 0, .int .u64 0, .int .u64 0, .int .u64 0, .int .u64 0, .int .u64 0, .int .u64 0, .int .u64 0, .int .u64 0, .int .u64 0, .int .u64 0, .int .u64 0] 59) = y := ⟨_, rfl⟩
              have hby21 : Blk y21 (wd).heap.size 59 #[.int .u64 0, .int .u64 0, .int .u64 0, .int .u64 0, .int .u64 0, .int .u64 0, .int .u64 0, .int .u64 0, .int .u64 0, .int .u64 0, .int .u64 0, .int .u64 0, .int .u64 0, .int .u64 0] := by rw [← hy21]; exact Blk.new _ _ _
              have hzy21 : Below (wd).heap.size (wd) y21 := by rw [← hy21]; exact balloc (Below.refl _ _) _
              have hSy21 : Below W1.heap.size W1 y21 := hS0.trans (hzy21.mono hS0.size)
              have hly21 := hS0.size
              obtain ⟨gy21, hgy21⟩ : ∃ g, (wd).heap.size = g := ⟨_, rfl⟩
              rw [hgy21] at hby21 hly21
              rw [hy21]
              rw [hgy21]
              refine hK.out _ _ (by (try dsimp only); exact hSy21) (fun hHeld => ?_)
              clear hK K
              simp only [List.setIfInBounds_toArray, List.set_cons_zero, List.set_cons_succ]
              refine wpAnyH_ready (rs := [12, 14]) (by as_aux_lemma => kernel_rfl) (by simp) ?_
              refine AllReadyH.cons (o := { dst := some 68, op := Op.call { callee := Callee.value (Operand.func 28), args := #[Operand.tmp 61, Operand.tmp 67], argTypes := #[31, 25] }, type := 59, pos := "ref.go:87", after := #[{ on := 5, ground := Ground.data }, { on := 11, ground := Ground.data }], guard := none }) rfl (fun K hK => ?_) ?_
              · rw [if_pos (by rfl)]
                go_simp
                (go_at_call 28; refine (HRW.out _ hSy21).mono ?_; rintro e z22 ⟨rfl, hzz22⟩)
                have hSz22 : Below W1.heap.size W1 z22 := hSy21.trans (hzz22.mono hSy21.size)
                have hb8z22 := hby21.keep hzz22
                refine hK.out _ _ (by (try dsimp only); exact hSz22) (fun hHeld => ?_)
                clear hK K
                simp only [List.setIfInBounds_toArray, List.set_cons_zero, List.set_cons_succ]
                refine wpAnyH_ready (rs := [14]) (by as_aux_lemma => kernel_rfl) (by simp) ?_
                refine AllReadyH.cons (o := { dst := some 12, op := Op.alloc 59, type := 0, pos := "ref.go:87", after := #[], guard := none }) rfl (fun K hK => ?_) (by exact AllReadyH.nil)
                rw [if_pos (by rfl)]
                go_simp
                obtain ⟨y23, hy23⟩ : ∃ y, (z22).alloc (.cells #[.int .u64 0, .int .u64 0, .int .u64 0, .int .u64 0, .int .u64 0, .int .u64 0, .int .u64 0, .int .u64 0, .int .u64 0, .int .u64 0, .int .u64 0, .int .u64 0, .int .u64 0, .int .u64 0] 59) = y := ⟨_, rfl⟩
                have hby23 : Blk y23 (z22).heap.size 59 #[.int .u64 0, .int .u64 0, .int .u64 0, .int .u64 0, .int .u64 0, .int .u64 0, .int .u64 0, .int .u64 0, .int .u64 0, .int .u64 0, .int .u64 0, .int .u64 0, .int .u64 0, .int .u64 0] := by rw [← hy23]; exact Blk.new _ _ _
                have hzy23 : Below (z22).heap.size (z22) y23 := by rw [← hy23]; exact balloc (Below.refl _ _) _
                have hSy23 : Below W1.heap.size W1 y23 := hSz22.trans (hzy23.mono hSz22.size)
                have hly23 := hSz22.size
                have hny23 : gy21 ≠ (z22).heap.size := by have := hb8z22.lt; omega
                have hb8y23 := hb8z22.keep hzy23
                obtain ⟨gy23, hgy23⟩ : ∃ g, (z22).heap.size = g := ⟨_, rfl⟩
                rw [hgy23] at hby23 hly23 hny23
                rw [hy23]
                rw [hgy23]
                refine hK.out _ _ (by (try dsimp only); exact hSy23) (fun hHeld => ?_)
                clear hK K
                simp only [List.setIfInBounds_toArray, List.set_cons_zero, List.set_cons_succ]
                refine wpAnyH_ready (rs := [15]) (by as_aux_lemma => kernel_rfl) (by simp) ?_
                refine AllReadyH.cons (o := { dst := none, op := Op.store 59 (Operand.tmp 11) (Operand.tmp 60), type := 0, pos := "ref.go:87", after := #[{ on := 13, ground := Ground.data }, { on := 4, ground := Ground.data }, { on := 12, ground := Ground.chain }, { on := 0, ground := Ground.phase }, { on := 1, ground := Ground.phase }, { on := 2, ground := Ground.phase }, { on := 3, ground := Ground.phase }, { on := 4, ground := Ground.phase }, { on := 5, ground := Ground.textOnly Departure.lateStores }, { on := 6, ground := Ground.textOnly Departure.lateStores }, { on := 7, ground := Ground.textOnly Departure.lateStores }, { on := 8, ground := Ground.textOnly Departure.lateStores }, { on := 9, ground := Ground.textOnly Departure.lateStores }, { on := 10, ground := Ground.textOnly Departure.lateStores }, { on := 11, ground := Ground.textOnly Departure.lateStores }, { on := 12, ground := Ground.textOnly Departure.lateStoresUnsure }, { on := 13, ground := Ground.phase }, { on := 14, ground := Ground.phase }], guard := none }) rfl (fun K hK => ?_) (by exact AllReadyH.nil)
                rw [if_pos (by rfl)]
                refine wp_store_row 59 (.tmp 11) (.tmp 60) rfl gy21 RA rfl rfl 59 #[.int .u64 0, .int .u64 0, .int .u64 0, .int .u64 0, .int .u64 0, .int .u64 0, .int .u64 0, .int .u64 0, .int .u64 0, .int .u64 0, .int .u64 0, .int .u64 0, .int .u64 0, .int .u64 0] hb8y23 (by rw [info_row, HRA.out.2.1]) (by rw [HRA.out.2.1]; rfl) HRA.out.2.2 ?_
                have hbx24 := setRow_heap y23 gy21 _ RA _ _ hb8y23
                have hSx24 : Below W1.heap.size W1 (y23.setRow gy21 RA) := below_setRow hSy23 hly21 _
                have hb9x24 := (setRow_other y23 gy21 gy23 RA (by omega)).trans hby23
                obtain ⟨x24, hx24⟩ : ∃ Z, y23.setRow gy21 RA = Z := ⟨_, rfl⟩
                rw [hx24] at hbx24 hSx24 hb9x24 ⊢
                clear hx24
                refine hK.out _ _ (by (try dsimp only); exact hSx24) (fun hHeld => ?_)
                clear hK K
                simp only [List.setIfInBounds_toArray, List.set_cons_zero, List.set_cons_succ]
                refine wpAnyH_ready (rs := [16]) (by as_aux_lemma => kernel_rfl) (by simp) ?_
                refine AllReadyH.cons (o := { dst := none, op := Op.store 59 (Operand.tmp 12) (Operand.tmp 68), type := 0, pos := "ref.go:87", after := #[{ on := 14, ground := Ground.data }, { on := 12, ground := Ground.data }, { on := 15, ground := Ground.chain }, { on := 0, ground := Ground.phase }, { on := 1, ground := Ground.phase }, { on := 2, ground := Ground.phase }, { on := 3, ground := Ground.phase }, { on := 4, ground := Ground.phase }, { on := 5, ground := Ground.phase }, { on := 6, ground := Ground.phase }, { on := 7, ground := Ground.phase }, { on := 8, ground := Ground.phase }, { on := 9, ground := Ground.phase }, { on := 10, ground := Ground.phase }, { on := 11, ground := Ground.phase }, { on := 12, ground := Ground.phase }, { on := 13, ground := Ground.phase }, { on := 14, ground := Ground.phase }, { on := 15, ground := Ground.phase }], guard := none }) rfl (fun K hK => ?_) (by exact AllReadyH.nil)
                rw [if_pos (by rfl)]
                refine wp_store_row 59 (.tmp 12) (.tmp 68) rfl gy23 XA rfl rfl 59 #[.int .u64 0, .int .u64 0, .int .u64 0, .int .u64 0, .int .u64 0, .int .u64 0, .int .u64 0, .int .u64 0, .int .u64 0, .int .u64 0, .int .u64 0, .int .u64 0, .int .u64 0, .int .u64 0] hb9x24 (by rw [info_row, HXA.out.2.1]) (by rw [HXA.out.2.1]; rfl) HXA.out.2.2 ?_
                have hbx25 := setRow_heap x24 gy23 _ XA _ _ hb9x24
                have hSx25 : Below W1.heap.size W1 (x24.setRow gy23 XA) := below_setRow hSx24 hly23 _
                have hb8x25 := (setRow_other x24 gy23 gy21 XA (by omega)).trans hbx24
                obtain ⟨x25, hx25⟩ : ∃ Z, x24.setRow gy23 XA = Z := ⟨_, rfl⟩
                rw [hx25] at hbx25 hSx25 hb8x25 ⊢
                clear hx25
                refine hK.out _ _ (by (try dsimp only); exact hSx25) (fun hHeld => ?_)
                clear hK K
                simp only [List.setIfInBounds_toArray, List.set_cons_zero, List.set_cons_succ]
                refine wpAnyH_done (by as_aux_lemma => kernel_rfl) ?_ _
                clear hHeld
                simp only [noPanicA]
                go_wp2_with fail
                go_meet
                exact ⟨gy21, gy23, rfl, rfl, hb8x25, hbx25, hSx25⟩
              refine AllReadyH.cons (o := { dst := some 12, op := Op.alloc 59, type := 0, pos := "ref.go:87", after := #[], guard := none }) rfl (fun K hK => ?_) (by exact AllReadyH.nil)
              rw [if_pos (by rfl)]
              go_simp
              obtain ⟨y26, hy26⟩ : ∃ y, (y21).alloc (.cells #[.int .u64 0, .int .u64 0, .int .u64 0, .int .u64 0, .int .u64 0, .int .u64 0, .int .u64 0, .int .u64 0, .int .u64 0, .int .u64 0, .int .u64 0, .int .u64 0, .int .u64 0, .int .u64 0] 59) = y := ⟨_, rfl⟩
              have hby26 : Blk y26 (y21).heap.size 59 #[.int .u64 0, .int .u64 0, .int .u64 0, .int .u64 0, .int .u64 0, .int .u64 0, .int .u64 0, .int .u64 0, .int .u64 0, .int .u64 0, .int .u64 0, .int .u64 0, .int .u64 0, .int .u64 0] := by rw [← hy26]; exact Blk.new _ _ _
              have hzy26 : Below (y21).heap.size (y21) y26 := by rw [← hy26]; exact balloc (Below.refl _ _) _
              have hSy26 : Below W1.heap.size W1 y26 := hSy21.trans (hzy26.mono hSy21.size)
              have hly26 := hSy21.size
              have hny26 : gy21 ≠ (y21).heap.size := by have := hby21.lt; omega
              have hb8y26 := hby21.keep hzy26
              obtain ⟨gy26, hgy26⟩ : ∃ g, (y21).heap.size = g := ⟨_, rfl⟩
              rw [hgy26] at hby26 hly26 hny26
              rw [hy26]
              rw [hgy26]
              refine hK.out _ _ (by (try dsimp only); exact hSy26) (fun hHeld => ?_)
              clear hK K
              simp only [List.setIfInBounds_toArray, List.set_cons_zero, List.set_cons_succ]
              refine wpAnyH_ready (rs := [12]) (by as_aux_lemma => kernel_rfl) (by simp) ?_
              refine AllReadyH.cons (o := { dst := some 68, op := Op.call { callee := Callee.value (Operand.func 28), args := #[Operand.tmp 61, Operand.tmp 67], argTypes := #[31, 25] }, type := 59, pos := "ref.go:87", after := #[{ on := 5, ground := Ground.data }, { on := 11, ground := Ground.data }], guard := none }) rfl (fun K hK => ?_) (by exact AllReadyH.nil)
              rw [if_pos (by rfl)]
              go_simp
              (go_at_call 28; refine (HRW.out _ hSy26).mono ?_; rintro e z27 ⟨rfl, hzz27⟩)
              have hSz27 : Below W1.heap.size W1 z27 := hSy26.trans (hzz27.mono hSy26.size)
              have hb8z27 := hb8y26.keep hzz27
              have hb9z27 := hby26.keep hzz27
              refine hK.out _ _ (by (try dsimp only); exact hSz27) (fun hHeld => ?_)
              clear hK K
              simp only [List.setIfInBounds_toArray, List.set_cons_zero, List.set_cons_succ]
              refine wpAnyH_ready (rs := [15]) (by as_aux_lemma => kernel_rfl) (by simp) ?_
              refine AllReadyH.cons (o := { dst := none, op := Op.store 59 (Operand.tmp 11) (Operand.tmp 60), type := 0, pos := "ref.go:87", after := #[{ on := 13, ground := Ground.data }, { on := 4, ground := Ground.data }, { on := 12, ground := Ground.chain }, { on := 0, ground := Ground.phase }, { on := 1, ground := Ground.phase }, { on := 2, ground := Ground.phase }, { on := 3, ground := Ground.phase }, { on := 4, ground := Ground.phase }, { on := 5, ground := Ground.textOnly Departure.lateStores }, { on := 6, ground := Ground.textOnly Departure.lateStores }, { on := 7, ground := Ground.textOnly Departure.lateStores }, { on := 8, ground := Ground.textOnly Departure.lateStores }, { on := 9, ground := Ground.textOnly Departure.lateStores }, { on := 10, ground := Ground.textOnly Departure.lateStores }, { on := 11, ground := Ground.textOnly Departure.lateStores }, { on := 12, ground := Ground.textOnly Departure.lateStoresUnsure }, { on := 13, ground := Ground.phase }, { on := 14, ground := Ground.phase }], guard := none }) rfl (fun K hK => ?_) (by exact AllReadyH.nil)
              rw [if_pos (by rfl)]
              refine wp_store_row 59 (.tmp 11) (.tmp 60) rfl gy21 RA rfl rfl 59 #[.int .u64 0, .int .u64 0, .int .u64 0, .int .u64 0, .int .u64 0, .int .u64 0, .int .u64 0, .int .u64 0, .int .u64 0, .int .u64 0, .int .u64 0, .int .u64 0, .int .u64 0, .int .u64 0] hb8z27 (by rw [info_row, HRA.out.2.1]) (by rw [HRA.out.2.1]; rfl) HRA.out.2.2 ?_
              have hbx28 := setRow_heap z27 gy21 _ RA _ _ hb8z27
              have hSx28 : Below W1.heap.size W1 (z27.setRow gy21 RA) := below_setRow hSz27 hly21 _
              have hb9x28 := (setRow_other z27 gy21 gy26 RA (by omega)).trans hb9z27
              obtain ⟨x28, hx28⟩ : ∃ Z, z27.setRow gy21 RA = Z := ⟨_, rfl⟩
              rw [hx28] at hbx28 hSx28 hb9x28 ⊢
              clear hx28
              refine hK.out _ _ (by (try dsimp only); exact hSx28) (fun hHeld => ?_)
              clear hK K
              simp only [List.setIfInBounds_toArray, List.set_cons_zero, List.set_cons_succ]
              refine wpAnyH_ready (rs := [16]) (by as_aux_lemma => kernel_rfl) (by simp) ?_
              refine AllReadyH.cons (o := { dst := none, op := Op.store 59 (Operand.tmp 12) (Operand.tmp 68), type := 0, pos := "ref.go:87", after := #[{ on := 14, ground := Ground.data }, { on := 12, ground := Ground.data }, { on := 15, ground := Ground.chain }, { on := 0, ground := Ground.phase }, { on := 1, ground := Ground.phase }, { on := 2, ground := Ground.phase }, { on := 3, ground := Ground.phase }, { on := 4, ground := Ground.phase }, { on := 5, ground := Ground.phase }, { on := 6, ground := Ground.phase }, { on := 7, ground := Ground.phase }, { on := 8, ground := Ground.phase }, { on := 9, ground := Ground.phase }, { on := 10, ground := Ground.phase }, { on := 11, ground := Ground.phase }, { on := 12, ground := Ground.phase }, { on := 13, ground := Ground.phase }, { on := 14, ground := Ground.phase }, { on := 15, ground := Ground.phase }], guard := none }) rfl (fun K hK => ?_) (by exact AllReadyH.nil)
              rw [if_pos (by rfl)]
              refine wp_store_row 59 (.tmp 12) (.tmp 68) rfl gy26 XA rfl rfl 59 #[.int .u64 0, .int .u64 0, .int .u64 0, .int .u64 0, .int .u64 0, .int .u64 0, .int .u64 0, .int .u64 0, .int .u64 0, .int .u64 0, .int .u64 0, .int .u64 0, .int .u64 0, .int .u64 0] hb9x28 (by rw [info_row, HXA.out.2.1]) (by rw [HXA.out.2.1]; rfl) HXA.out.2.2 ?_
              have hbx29 := setRow_heap x28 gy26 _ XA _ _ hb9x28
              have hSx29 : Below W1.heap.size W1 (x28.setRow gy26 XA) := below_setRow hSx28 hly26 _
              have hb8x29 := (setRow_other x28 gy26 gy21 XA (by omega)).trans hbx28
              obtain ⟨x29, hx29⟩ : ∃ Z, x28.setRow gy26 XA = Z := ⟨_, rfl⟩
              rw [hx29] at hbx29 hSx29 hb8x29 ⊢
              clear hx29
              refine hK.out _ _ (by (try dsimp only); exact hSx29) (fun hHeld => ?_)
              clear hK K
              simp only [List.setIfInBounds_toArray, List.set_cons_zero, List.set_cons_succ]
              refine wpAnyH_done (by as_aux_lemma => kernel_rfl) ?_ _
              clear hHeld
              simp only [noPanicA]
              go_wp2_with fail
              go_meet
              exact ⟨gy21, gy26, rfl, rfl, hb8x29, hbx29, hSx29⟩
            refine AllReadyH.cons (o := { dst := some 12, op := Op.alloc 59, type := 0, pos := "ref.go:87", after := #[], guard := none }) rfl (fun K hK => ?_) (by exact AllReadyH.nil)
            rw [if_pos (by rfl)]
            go_simp
            obtain ⟨y30, hy30⟩ : ∃ y, (wd).alloc (.cells #[.int .u64 0, .int .u64 0, .int .u64 0, .int .u64 0, .int .u64 0, .int .u64 0, .int .u64 0, .int .u64 0, .int .u64 0, .int .u64 0, .int .u64 0, .int .u64 0, .int .u64 0, .int .u64 0] 59) = y := ⟨_, rfl⟩
            have hby30 : Blk y30 (wd).heap.size 59 #[.int .u64 0, .int .u64 0, .int .u64 0, .int .u64 0, .int .u64 0, .int .u64 0, .int .u64 0, .int .u64 0, .int .u64 0, .int .u64 0, .int .u64 0, .int .u64 0, .int .u64 0, .int .u64 0] := by rw [← hy30]; exact Blk.new _ _ _
            have hzy30 : Below (wd).heap.size (wd) y30 := by rw [← hy30]; exact balloc (Below.refl _ _) _
            have hSy30 : Below W1.heap.size W1 y30 := hS0.trans (hzy30.mono hS0.size)
            have hly30 := hS0.size
            obtain ⟨gy30, hgy30⟩ : ∃ g, (wd).heap.size = g := ⟨_, rfl⟩
            rw [hgy30] at hby30 hly30
            rw [hy30]
            rw [hgy30]
            refine hK.out _ _ (by (try dsimp only); exact hSy30) (fun hHeld => ?_)
            clear hK K
            simp only [List.setIfInBounds_toArray, List.set_cons_zero, List.set_cons_succ]
            refine wpAnyH_ready (rs := [12, 13]) (by as_aux_lemma => kernel_rfl) (by simp) ?_
            refine AllReadyH.cons (o := { dst := some 68, op := Op.call { callee := Callee.value (Operand.func 28), args := #[Operand.tmp 61, Operand.tmp 67], argTypes := #[31, 25] }, type := 59, pos := "ref.go:87", after := #[{ on := 5, ground := Ground.data }, { on := 11, ground := Ground.data }], guard := none }) rfl (fun K hK => ?_) ?_
            · rw [if_pos (by rfl)]
              go_simp
              (go_at_call 28; refine (HRW.out _ hSy30).mono ?_; rintro e z31 ⟨rfl, hzz31⟩)
              have hSz31 : Below W1.heap.size W1 z31 := hSy30.trans (hzz31.mono hSy30.size)
              have hb9z31 := hby30.keep hzz31
              refine hK.out _ _ (by (try dsimp only); exact hSz31) (fun hHeld => ?_)
              clear hK K
              simp only [List.setIfInBounds_toArray, List.set_cons_zero, List.set_cons_succ]
              refine wpAnyH_ready (rs := [13]) (by as_aux_lemma => kernel_rfl) (by simp) ?_
              refine AllReadyH.cons (o := { dst := some 11, op := Op.alloc 59, type := 0, pos := "ref.go:87", after := #[], guard := none }) rfl (fun K hK => ?_) (by exact AllReadyH.nil)
              rw [if_pos (by rfl)]
              go_simp
              obtain ⟨y32, hy32⟩ : ∃ y, (z31).alloc (.cells #[.int .u64 0, .int .u64 0, .int .u64 0, .int .u64 0, .int .u64 0, .int .u64 0, .int .u64 0, .int .u64 0, .int .u64 0, .int .u64 0, .int .u64 0, .int .u64 0, .int .u64 0, .int .u64 0] 59) = y := ⟨_, rfl⟩
              have hby32 : Blk y32 (z31).heap.size 59 #[.int .u64 0, .int .u64 0, .int .u64 0, .int .u64 0, .int .u64 0, .int .u64 0, .int .u64 0, .int .u64 0, .int .u64 0, .int .u64 0, .int .u64 0, .int .u64 0, .int .u64 0, .int .u64 0] := by rw [← hy32]; exact Blk.new _ _ _
              have hzy32 : Below (z31).heap.size (z31) y32 := by rw [← hy32]; exact balloc (Below.refl _ _) _
              have hSy32 : Below W1.heap.size W1 y32 := hSz31.trans (hzy32.mono hSz31.size)
              have hly32 := hSz31.size
              have hny32 : gy30 ≠ (z31).heap.size := by have := hb9z31.lt; omega
              have hb9y32 := hb9z31.keep hzy32
              obtain ⟨gy32, hgy32⟩ : ∃ g, (z31).heap.size = g := ⟨_, rfl⟩
              rw [hgy32] at hby32 hly32 hny32
              rw [hy32]
              rw [hgy32]
              refine hK.out _ _ (by (try dsimp only); exact hSy32) (fun hHeld => ?_)
              clear hK K
              simp only [List.setIfInBounds_toArray, List.set_cons_zero, List.set_cons_succ]
              refine wpAnyH_ready (rs := [15]) (by as_aux_lemma => kernel_rfl) (by simp) ?_
              refine AllReadyH.cons (o := { dst := none, op := Op.store 59 (Operand.tmp 11) (Operand.tmp 60), type := 0, pos := "ref.go:87", after := #[{ on := 13, ground := Ground.data }, { on := 4, ground := Ground.data }, { on := 12, ground := Ground.chain }, { on := 0, ground := Ground.phase }, { on := 1, ground := Ground.phase }, { on := 2, ground := Ground.phase }, { on := 3, ground := Ground.phase }, { on := 4, ground := Ground.phase }, { on := 5, ground := Ground.textOnly Departure.lateStores }, { on := 6, ground := Ground.textOnly Departure.lateStores }, { on := 7, ground := Ground.textOnly Departure.lateStores }, { on := 8, ground := Ground.textOnly Departure.lateStores }, { on := 9, ground := Ground.textOnly Departure.lateStores }, { on := 10, ground := Ground.textOnly Departure.lateStores }, { on := 11, ground := Ground.textOnly Departure.lateStores }, { on := 12, ground := Ground.textOnly Departure.lateStoresUnsure }, { on := 13, ground := Ground.phase }, { on := 14, ground := Ground.phase }], guard := none }) rfl (fun K hK => ?_) (by exact AllReadyH.nil)
              rw [if_pos (by rfl)]
              refine wp_store_row 59 (.tmp 11) (.tmp 60) rfl gy32 RA rfl rfl 59 #[.int .u64 0, .int .u64 0, .int .u64 0, .int .u64 0, .int .u64 0, .int .u64 0, .int .u64 0, .int .u64 0, .int .u64 0, .int .u64 0, .int .u64 0, .int .u64 0, .int .u64 0, .int .u64 0] hby32 (by rw [info_row, HRA.out.2.1]) (by rw [HRA.out.2.1]; rfl) HRA.out.2.2 ?_
              have hbx33 := setRow_heap y32 gy32 _ RA _ _ hby32
              have hSx33 : Below W1.heap.size W1 (y32.setRow gy32 RA) := below_setRow hSy32 hly32 _
              have hb9x33 := (setRow_other y32 gy32 gy30 RA (by omega)).trans hb9y32
              obtain ⟨x33, hx33⟩ : ∃ Z, y32.setRow gy32 RA = Z := ⟨_, rfl⟩
              rw [hx33] at hbx33 hSx33 hb9x33 ⊢
              clear hx33
              refine hK.out _ _ (by (try dsimp only); exact hSx33) (fun hHeld => ?_)
              clear hK K
              simp only [List.setIfInBounds_toArray, List.set_cons_zero, List.set_cons_succ]
              refine wpAnyH_ready (rs := [16]) (by as_aux_lemma => kernel_rfl) (by simp) ?_
              refine AllReadyH.cons (o := { dst := none, op := Op.store 59 (Operand.tmp 12) (Operand.tmp 68), type := 0, pos := "ref.go:87", after := #[{ on := 14, ground := Ground.data }, { on := 12, ground := Ground.data }, { on := 15, ground := Ground.chain }, { on := 0, ground := Ground.phase }, { on := 1, ground := Ground.phase }, { on := 2, ground := Ground.phase }, { on := 3, ground := Ground.phase }, { on := 4, ground := Ground.phase }, { on := 5, ground := Ground.phase }, { on := 6, ground := Ground.phase }, { on := 7, ground := Ground.phase }, { on := 8, ground := Ground.phase }, { on := 9, ground := Ground.phase }, { on := 10, ground := Ground.phase }, { on := 11, ground := Ground.phase }, { on := 12, ground := Ground.phase }, { on := 13, ground := Ground.phase }, { on := 14, ground := Ground.phase }, { on := 15, ground := Ground.phase }], guard := none }) rfl (fun K hK => ?_) (by exact AllReadyH.nil)
              rw [if_pos (by rfl)]
              refine wp_store_row 59 (.tmp 12) (.tmp 68) rfl gy30 XA rfl rfl 59 #[.int .u64 0, .int .u64 0, .int .u64 0, .int .u64 0, .int .u64 0, .int .u64 0, .int .u64 0, .int .u64 0, .int .u64 0, .int .u64 0, .int .u64 0, .int .u64 0, .int .u64 0, .int .u64 0] hb9x33 (by rw [info_row, HXA.out.2.1]) (by rw [HXA.out.2.1]; rfl) HXA.out.2.2 ?_
              have hbx34 := setRow_heap x33 gy30 _ XA _ _ hb9x33
              have hSx34 : Below W1.heap.size W1 (x33.setRow gy30 XA) := below_setRow hSx33 hly30 _
              have hb8x34 := (setRow_other x33 gy30 gy32 XA (by omega)).trans hbx33
              obtain ⟨x34, hx34⟩ : ∃ Z, x33.setRow gy30 XA = Z := ⟨_, rfl⟩
              rw [hx34] at hbx34 hSx34 hb8x34 ⊢
              clear hx34
              refine hK.out _ _ (by (try dsimp only); exact hSx34) (fun hHeld => ?_)
              clear hK K
              simp only [List.setIfInBounds_toArray, List.set_cons_zero, List.set_cons_succ]
              refine wpAnyH_done (by as_aux_lemma => kernel_rfl) ?_ _
              clear hHeld
              simp only [noPanicA]
              go_wp2_with fail
              go_meet
              exact ⟨gy32, gy30, rfl, rfl, hb8x34, hbx34, hSx34⟩
            refine AllReadyH.cons (o := { dst := some 11, op := Op.alloc 59, type := 0, pos := "ref.go:87", after := #[], guard := none }) rfl (fun K hK => ?_) (by exact AllReadyH.nil)
            rw [if_pos (by rfl)]
            go_simp
            obtain ⟨y35, hy35⟩ : ∃ y, (y30).alloc (.cells #[.int .u64 0, .int .u64 0, .int .u64 0, .int .u64 0, .int .u64 0, .int .u64 0, .int .u64 0, .int .u64 0, .int .u64 0, .int .u64 0, .int .u64 0, .int .u64 0, .int .u64 0, .int .u64 0] 59) = y := ⟨_, rfl⟩
            have hby35 : Blk y35 (y30).heap.size 59 #[.int .u64 0, .int .u64 0, .int .u64 0, .int .u64 0, .int .u64 0, .int .u64 0, .int .u64 0, .int .u64 0, .int .u64 0, .int .u64 0, .int .u64 0, .int .u64 0, .int .u64 0, .int .u64 0] := by rw [← hy35]; exact Blk.new _ _ _
            have hzy35 : Below (y30).heap.size (y30) y35 := by rw [← hy35]; exact balloc (Below.refl _ _) _
            have hSy35 : Below W1.heap.size W1 y35 := hSy30.trans (hzy35.mono hSy30.size)
            have hly35 := hSy30.size
            have hny35 : gy30 ≠ (y30).heap.size := by have := hby30.lt; omega
            have hb9y35 := hby30.keep hzy35
            obtain ⟨gy35, hgy35⟩ : ∃ g, (y30).heap.size = g := ⟨_, rfl⟩
            rw [hgy35] at hby35 hly35 hny35
            rw [hy35]
            rw [hgy35]
            refine hK.out _ _ (by (try dsimp only); exact hSy35) (fun hHeld => ?_)
            clear hK K
            simp only [List.setIfInBounds_toArray, List.set_cons_zero, List.set_cons_succ]
            refine wpAnyH_ready (rs := [12]) (by as_aux_lemma => kernel_rfl) (by simp) ?_
            refine AllReadyH.cons (o := { dst := some 68, op := Op.call { callee := Callee.value (Operand.func 28), args := #[Operand.tmp 61, Operand.tmp 67], argTypes := #[31, 25] }, type := 59, pos := "ref.go:87", after := #[{ on := 5, ground := Ground.data }, { on := 11, ground := Ground.data }], guard := none }) rfl (fun K hK => ?_) (by exact AllReadyH.nil)
            rw [if_pos (by rfl)]
            go_simp
            (go_at_call 28; refine (HRW.out _ hSy35).mono ?_; rintro e z36 ⟨rfl, hzz36⟩)
            have hSz36 : Below W1.heap.size W1 z36 := hSy35.trans (hzz36.mono hSy35.size)
            have hb8z36 := hby35.keep hzz36
            have hb9z36 := hb9y35.keep hzz36
            refine hK.out _ _ (by (try dsimp only); exact hSz36) (fun hHeld => ?_)
            clear hK K
            simp only [List.setIfInBounds_toArray, List.set_cons_zero, List.set_cons_succ]
            refine wpAnyH_ready (rs := [15]) (by as_aux_lemma => kernel_rfl) (by simp) ?_
            refine AllReadyH.cons (o := { dst := none, op := Op.store 59 (Operand.tmp 11) (Operand.tmp 60), type := 0, pos := "ref.go:87", after := #[{ on := 13, ground := Ground.data }, { on := 4, ground := Ground.data }, { on := 12, ground := Ground.chain }, { on := 0, ground := Ground.phase }, { on := 1, ground := Ground.phase }, { on := 2, ground := Ground.phase }, { on := 3, ground := Ground.phase }, { on := 4, ground := Ground.phase }, { on := 5, ground := Ground.textOnly Departure.lateStores }, { on := 6, ground := Ground.textOnly Departure.lateStores }, { on := 7, ground := Ground.textOnly Departure.lateStores }, { on := 8, ground := Ground.textOnly Departure.lateStores }, { on := 9, ground := Ground.textOnly Departure.lateStores }, { on := 10, ground := Ground.textOnly Departure.lateStores }, { on := 11, ground := Ground.textOnly Departure.lateStores }, { on := 12, ground := Ground.textOnly Departure.lateStoresUnsure }, { on := 13, ground := Ground.phase }, { on := 14, ground := Ground.phase }], guard := none }) rfl (fun K hK => ?_) (by exact AllReadyH.nil)
            rw [if_pos (by rfl)]
            refine wp_store_row 59 (.tmp 11) (.tmp 60) rfl gy35 RA rfl rfl 59 #[.int .u64 0, .int .u64 0, .int .u64 0, .int .u64 0, .int .u64 0, .int .u64 0, .int .u64 0, .int .u64 0, .int .u64 0, .int .u64 0, .int .u64 0, .int .u64 0, .int .u64 0, .int .u64 0] hb8z36 (by rw [info_row, HRA.out.2.1]) (by rw [HRA.out.2.1]; rfl) HRA.out.2.2 ?_
            have hbx37 := setRow_heap z36 gy35 _ RA _ _ hb8z36
            have hSx37 : Below W1.heap.size W1 (z36.setRow gy35 RA) := below_setRow hSz36 hly35 _
            have hb9x37 := (setRow_other z36 gy35 gy30 RA (by omega)).trans hb9z36
            obtain ⟨x37, hx37⟩ : ∃ Z, z36.setRow gy35 RA = Z := ⟨_, rfl⟩
            rw [hx37] at hbx37 hSx37 hb9x37 ⊢
            clear hx37
            refine hK.out _ _ (by (try dsimp only); exact hSx37) (fun hHeld => ?_)
            clear hK K
            simp only [List.setIfInBounds_toArray, List.set_cons_zero, List.set_cons_succ]
            refine wpAnyH_ready (rs := [16]) (by as_aux_lemma => kernel_rfl) (by simp) ?_
            refine AllReadyH.cons (o := { dst := none, op := Op.store 59 (Operand.tmp 12) (Operand.tmp 68), type := 0, pos := "ref.go:87", after := #[{ on := 14, ground := Ground.data }, { on := 12, ground := Ground.data }, { on := 15, ground := Ground.chain }, { on := 0, ground := Ground.phase }, { on := 1, ground := Ground.phase }, { on := 2, ground := Ground.phase }, { on := 3, ground := Ground.phase }, { on := 4, ground := Ground.phase }, { on := 5, ground := Ground.phase }, { on := 6, ground := Ground.phase }, { on := 7, ground := Ground.phase }, { on := 8, ground := Ground.phase }, { on := 9, ground := Ground.phase }, { on := 10, ground := Ground.phase }, { on := 11, ground := Ground.phase }, { on := 12, ground := Ground.phase }, { on := 13, ground := Ground.phase }, { on := 14, ground := Ground.phase }, { on := 15, ground := Ground.phase }], guard := none }) rfl (fun K hK => ?_) (by exact AllReadyH.nil)
            rw [if_pos (by rfl)]
            refine wp_store_row 59 (.tmp 12) (.tmp 68) rfl gy30 XA rfl rfl 59 #[.int .u64 0, .int .u64 0, .int .u64 0, .int .u64 0, .int .u64 0, .int .u64 0, .int .u64 0, .int .u64 0, .int .u64 0, .int .u64 0, .int .u64 0, .int .u64 0, .int .u64 0, .int .u64 0] hb9x37 (by rw [info_row, HXA.out.2.1]) (by rw [HXA.out.2.1]; rfl) HXA.out.2.2 ?_
            have hbx38 := setRow_heap x37 gy30 _ XA _ _ hb9x37
            have hSx38 : Below W1.heap.size W1 (x37.setRow gy30 XA) := below_setRow hSx37 hly30 _
            have hb8x38 := (setRow_other x37 gy30 gy35 XA (by omega)).trans hbx37
            obtain ⟨x38, hx38⟩ : ∃ Z, x37.setRow gy30 XA = Z := ⟨_, rfl⟩
            rw [hx38] at hbx38 hSx38 hb8x38 ⊢
            clear hx38
            refine hK.out _ _ (by (try dsimp only); exact hSx38) (fun hHeld => ?_)
            clear hK K
            simp only [List.setIfInBounds_toArray, List.set_cons_zero, List.set_cons_succ]
            refine wpAnyH_done (by as_aux_lemma => kernel_rfl) ?_ _
            clear hHeld
            simp only [noPanicA]
            go_wp2_with fail
            go_meet
            exact ⟨gy35, gy30, rfl, rfl, hb8x38, hbx38, hSx38⟩
          case rest =>
            obtain ⟨g8, g9, rfl, rfl, k8, k9, hb9⟩ := hcut
            rw [← HRA.out.1] at k8
            rw [← HXA.out.1] at k9
            have e4 : wc.cell? ⟨g8, 4, none⟩ = some (.int .u64 (lb r.2.1.1 0)) := cell_of_row _ _ 4 _ _ _ k8
            have u4 : wc.cell? ⟨g9, 4, none⟩ = some (.int .u64 (lb x.2.1.1 0)) := cell_of_row _ _ 4 _ _ _ k9
            have e5 : wc.cell? ⟨g8, 5, none⟩ = some (.int .u64 (lb r.2.1.1 1)) := cell_of_row _ _ 5 _ _ _ k8
            have u5 : wc.cell? ⟨g9, 5, none⟩ = some (.int .u64 (lb x.2.1.1 1)) := cell_of_row _ _ 5 _ _ _ k9
            have e6 : wc.cell? ⟨g8, 6, none⟩ = some (.int .u64 (lb r.2.1.1 2)) := cell_of_row _ _ 6 _ _ _ k8
            have u6 : wc.cell? ⟨g9, 6, none⟩ = some (.int .u64 (lb x.2.1.1 2)) := cell_of_row _ _ 6 _ _ _ k9
            have e7 : wc.cell? ⟨g8, 7, none⟩ = some (.int .u64 (lb r.2.1.1 3)) := cell_of_row _ _ 7 _ _ _ k8
            have u7 : wc.cell? ⟨g9, 7, none⟩ = some (.int .u64 (lb x.2.1.1 3)) := cell_of_row _ _ 7 _ _ _ k9
            have e8 : wc.cell? ⟨g8, 8, none⟩ = some (.int .u64 (r.2.1.2 : Nat)) := cell_of_row _ _ 8 _ _ _ k8
            have u8 : wc.cell? ⟨g9, 8, none⟩ = some (.int .u64 (x.2.1.2 : Nat)) := cell_of_row _ _ 8 _ _ _ k9
            have HK := Lib.hid (And.intro k8 (And.intro k9 hb9))
            clear k8 k9 hb9 hS0 q0 q1 q2 q3 q4 q5 q6 q7 q8 q9 q10 q11 q12 q13 cA cB hdl hdl2 HRW
            cases t1
            · go_wp2_with (first
                | (go_at_call 37; (with_reducible refine (HS1.out _).mono ?_); rintro e z1 ⟨rfl, hz1⟩)
                | with_reducible refine And.intro (fun f h => (by cases h)) ?_
                | fail)
              (try simp only [Exit.inBlock, Exit.then])
              go_ret
              exact ⟨by rw [al_false2 (List.mem_of_getElem? HR.out.1) HR.out.2.2.1]; rfl, bstep HA.out.2.2.1 (HK.out.2.2.trans (hz1.mono HK.out.2.2.size))⟩
            · cases t2
              · go_wp2_with (first
                  | (go_at_call 37; (with_reducible refine (HS1.out _).mono ?_); rintro e z1 ⟨rfl, hz1⟩; have h8 := HK.out.1.keep hz1; have h9 := HK.out.2.1.keep hz1; have e9 : z1.cell? ⟨g8, 9, none⟩ = some (.int .u64 (lb r.2.2.1 0)) := cell_of_row _ _ 9 _ _ _ h8; have u9 : z1.cell? ⟨g9, 9, none⟩ = some (.int .u64 (lb x.2.2.1 0)) := cell_of_row _ _ 9 _ _ _ h9; have e10 : z1.cell? ⟨g8, 10, none⟩ = some (.int .u64 (lb r.2.2.1 1)) := cell_of_row _ _ 10 _ _ _ h8; have u10 : z1.cell? ⟨g9, 10, none⟩ = some (.int .u64 (lb x.2.2.1 1)) := cell_of_row _ _ 10 _ _ _ h9; have e11 : z1.cell? ⟨g8, 11, none⟩ = some (.int .u64 (lb r.2.2.1 2)) := cell_of_row _ _ 11 _ _ _ h8; have u11 : z1.cell? ⟨g9, 11, none⟩ = some (.int .u64 (lb x.2.2.1 2)) := cell_of_row _ _ 11 _ _ _ h9; have e12 : z1.cell? ⟨g8, 12, none⟩ = some (.int .u64 (lb r.2.2.1 3)) := cell_of_row _ _ 12 _ _ _ h8; have u12 : z1.cell? ⟨g9, 12, none⟩ = some (.int .u64 (lb x.2.2.1 3)) := cell_of_row _ _ 12 _ _ _ h9; have e13 : z1.cell? ⟨g8, 13, none⟩ = some (.int .u64 (r.2.2.2 : Nat)) := cell_of_row _ _ 13 _ _ _ h8; have u13 : z1.cell? ⟨g9, 13, none⟩ = some (.int .u64 (x.2.2.2 : Nat)) := cell_of_row _ _ 13 _ _ _ h9; have H1 := Lib.hid hz1; clear h8 h9 hz1)
                  | (go_at_call 37; (with_reducible refine (HS2.out _).mono ?_); rintro e z2 ⟨rfl, hz2⟩; have H2 := Lib.hid hz2; clear hz2)
                  | with_reducible refine And.intro (fun f h => (by cases h)) ?_
                  | fail)
                (try simp only [Exit.inBlock, Exit.then])
                go_ret
                exact ⟨by rw [al_false2 (List.mem_of_getElem? HR.out.1) HR.out.2.2.1]; rfl, bstep HA.out.2.2.1 ((HK.out.2.2.trans (H1.out.mono HK.out.2.2.size)).trans (H2.out.mono (Nat.le_trans HK.out.2.2.size H1.out.size)))⟩
              · go_wp2_with (first
                  | (go_at_call 37; (with_reducible refine (HS1.out _).mono ?_); rintro e z1 ⟨rfl, hz1⟩; have h8 := HK.out.1.keep hz1; have h9 := HK.out.2.1.keep hz1; have e9 : z1.cell? ⟨g8, 9, none⟩ = some (.int .u64 (lb r.2.2.1 0)) := cell_of_row _ _ 9 _ _ _ h8; have u9 : z1.cell? ⟨g9, 9, none⟩ = some (.int .u64 (lb x.2.2.1 0)) := cell_of_row _ _ 9 _ _ _ h9; have e10 : z1.cell? ⟨g8, 10, none⟩ = some (.int .u64 (lb r.2.2.1 1)) := cell_of_row _ _ 10 _ _ _ h8; have u10 : z1.cell? ⟨g9, 10, none⟩ = some (.int .u64 (lb x.2.2.1 1)) := cell_of_row _ _ 10 _ _ _ h9; have e11 : z1.cell? ⟨g8, 11, none⟩ = some (.int .u64 (lb r.2.2.1 2)) := cell_of_row _ _ 11 _ _ _ h8; have u11 : z1.cell? ⟨g9, 11, none⟩ = some (.int .u64 (lb x.2.2.1 2)) := cell_of_row _ _ 11 _ _ _ h9; have e12 : z1.cell? ⟨g8, 12, none⟩ = some (.int .u64 (lb r.2.2.1 3)) := cell_of_row _ _ 12 _ _ _ h8; have u12 : z1.cell? ⟨g9, 12, none⟩ = some (.int .u64 (lb x.2.2.1 3)) := cell_of_row _ _ 12 _ _ _ h9; have e13 : z1.cell? ⟨g8, 13, none⟩ = some (.int .u64 (r.2.2.2 : Nat)) := cell_of_row _ _ 13 _ _ _ h8; have u13 : z1.cell? ⟨g9, 13, none⟩ = some (.int .u64 (x.2.2.2 : Nat)) := cell_of_row _ _ 13 _ _ _ h9; have H1 := Lib.hid hz1; clear h8 h9 hz1)
                  | (go_at_call 37; (with_reducible refine (HS2.out _).mono ?_); rintro e z2 ⟨rfl, hz2⟩; have H2 := Lib.hid hz2; clear hz2)
                  | with_reducible refine And.intro (fun f h => (by cases h)) ?_
                  | fail)
                refine ⟨⟨k + 1, rfl, by have := HR.out.2.2.2.1; omega, fun y hy => ?_, (HK.out.2.2.trans (H1.out.mono HK.out.2.2.size)).trans (H2.out.mono (Nat.le_trans HK.out.2.2.size H1.out.size))⟩, by have := HR.out.2.2.2.1; simp [intOf]; omega⟩
                rw [take_suc HR.out.1] at hy
                rcases List.mem_append.1 hy with h | h
                · exact HR.out.2.1 y h
                · simp at h; subst h; rw [HR.out.2.2.1]; rfl
        · have hkN : N2 = k := by omega
          subst hkN
          have hnl : ¬ ((N2 : Int) < (N2 : Int)) := by omega
          rw [List.take_of_length_le (by rw [HN2.out]; exact Nat.le_refl _)] at hpre
          go_wp2_with fail
          (try simp only [Exit.inBlock, Exit.then])
          go_ret
          exact ⟨by rw [al_true H1E.out.1 hpre]; rfl, bstep HA.out.2.2.1 hbl⟩
end Go.Proofs.Ytcfnhilcpfiocaa
