/- A word's numbers, gone over twice, the first time left early (exciselaw01.WordParts): the walk. -/
import Derived.Test.YtimmcljpfpimbaaDoorWj
namespace Go.Proofs.YtimmcljpfpimbaaDoor
open Go.RowKit Go.Shelf
attribute [local go_sem] Oper.semAt_some

theorem OwnFrom.or {β : Type} {B : Nat} {I I' : β → World → Prop} (h : OwnFrom B I) (h' : OwnFrom B I') : OwnFrom B (fun s W => I s W ∨ I' s W) := fun s W W' row hs hg hr => hs.elim (fun h1 => .inl (h s W W' row h1 hg hr)) (fun h1 => .inr (h' s W W' row h1 hg hr))
theorem xs4_last (k : Nat) (q : List (Fin 4)) (y : Fin 4) (h : xs4.take k = q ++ [y]) : y.val = q.length := by
  have hq : q = (xs4.take k).dropLast := by rw [h]; simp
  have hy : (xs4.take k).getLast? = some y := by rw [h]; simp
  subst hq
  match k with
  | 0 => exact absurd hy (by simp)
  | 1 => exact (Option.some.inj (congrArg (Option.map Fin.val) hy)).symm
  | 2 => exact (Option.some.inj (congrArg (Option.map Fin.val) hy)).symm
  | 3 => exact (Option.some.inj (congrArg (Option.map Fin.val) hy)).symm
  | k + 4 =>
    have e0 : xs4.take (k + 4) = xs4 := by rw [List.take_of_length_le]; show 4 ≤ k + 4; omega
    rw [e0] at hy ⊢
    exact (Option.some.inj (congrArg (Option.map Fin.val) hy)).symm
theorem ownFrom_obj {β : Type} {B D : Nat} {o : Obj} (h : D < B) : OwnFrom B (fun (_ : β) Y => Y.heap[D]? = some o) := fun s W W' row hs hg hr =>
  (hg.block D (Array.getElem?_eq_some_iff.1 hs).1 (fun e => by have := (hr D e.symm).1; omega)).trans hs
theorem Blk.cell0 {X : World} {g : Nat} {t : TypeId} {v : Value} (h : Blk X g t #[v]) : X.cell? ⟨g, 0, none⟩ = some v := cell_of_row X g 0 _ _ _ h
theorem Blk.frozen0 {X : World} {g : Nat} {t : TypeId} {cs : Array Value} (h : Blk X g t cs) : X.frozen? ⟨g, 0, none⟩ = false := frozen_of_row X g 0 _ _ h
theorem Wc_get (a k : Nat) (hk : k < 4) : (Wc a)[k]? = some (.int .u64 (lb a k)) := by
  match k, hk with
  | 0, _ | 1, _ | 2, _ | 3, _ => rfl

set_option maxRecDepth 100000 in
set_option maxHeartbeats 4000000 in
theorem partsLaw_walk (a : Nat) (m : Int) (hm0 : -9223372036854775808 ≤ m) (hm1 : m ≤ 9223372036854775807) (w : World) :
    Calls Tryd.prog 7 #[W a, .int .i64 m] w fun e w' => e = .returned (.bool true) ∧ Below w.heap.size w w' := by
  have hnil : ∀ (p : Value) w, (binOp .eql 51 (.func (.func 46) #[] #[p]) .nilFunc).run Tryd.prog w = .ok (.bool false) w := fun _ _ => by kernel_rfl
  refine (callsIn_wide (n := 20)).1 ?_
  refine callsIn_of_wp_marks Tryd.func7 rfl trivial ?_ rfl
  simp only [Tryd.ntmps7, List.size_toArray, List.length_cons, List.length_nil, Nat.reduceAdd, Nat.reduceSub, Array.replicate_succ, Array.replicate_zero, List.push_toArray, List.append_toArray, List.nil_append, List.cons_append]
  gi_wp2_with (refine ⟨trivial, ?_⟩; gi_at_call 31; refine (parts_in Fence.wide (20 - 1) trivial rfl _ _).mono ?_; rintro e w' ⟨rfl, rfl⟩)
  refine wpIn_loop_rounds 3 ?_
  rw [roundsIn_succ]
  gi_wp2
  obtain ⟨W1, hW1⟩ : ∃ W1, w.alloc (.cells (Wc a) 24) = W1 := ⟨_, rfl⟩
  obtain ⟨W2, hW2⟩ : ∃ W2, W1.alloc (.cells #[.int .i64 m] 3) = W2 := ⟨_, rfl⟩
  obtain ⟨W3, hW3⟩ : ∃ W3, W2.alloc (.cells #[.bool false] 4) = W3 := ⟨_, rfl⟩
  obtain ⟨W4, hW4⟩ : ∃ W4, W3.alloc (.cells (Wc a) 24) = W4 := ⟨_, rfl⟩
  obtain ⟨W5, hW5⟩ : ∃ W5, W4.alloc (.cells #[.int .i64 0] 3) = W5 := ⟨_, rfl⟩
  obtain ⟨W0, hW0⟩ : ∃ W0, W5.alloc (.cells #[.int .i64 0] 3) = W0 := ⟨_, rfl⟩
  have z1 : W1.heap.size = w.heap.size + 1 := by rw [← hW1]; simp
  have z2 : W2.heap.size = w.heap.size + 1 + 1 := by rw [← hW2]; simp [z1]
  have z3 : W3.heap.size = w.heap.size + 1 + 1 + 1 := by rw [← hW3]; simp [z2]
  have z4 : W4.heap.size = w.heap.size + 1 + 1 + 1 + 1 := by rw [← hW4]; simp [z3]
  have z5 : W5.heap.size = w.heap.size + 1 + 1 + 1 + 1 + 1 := by rw [← hW5]; simp [z4]
  have hsz : W0.heap.size = w.heap.size + 1 + 1 + 1 + 1 + 1 + 1 := by rw [← hW0]; simp [z5]
  have bA1 : Blk W0 w.heap.size 24 (Wc a) := by rw [← hW0, ← hW5, ← hW4, ← hW3, ← hW2, ← hW1]; exact (((((Blk.new w _ _).alloc _).alloc _).alloc _).alloc _).alloc _
  have bM1 : Blk W0 (w.heap.size + 1) 3 #[.int .i64 m] := by rw [← hW0, ← hW5, ← hW4, ← hW3, ← hW2, ← z1]; exact ((((Blk.new W1 _ _).alloc _).alloc _).alloc _).alloc _
  have bR1 : Blk W0 (w.heap.size + 1 + 1) 4 #[.bool false] := by rw [← hW0, ← hW5, ← hW4, ← hW3, ← z2]; exact (((Blk.new W2 _ _).alloc _).alloc _).alloc _
  have bC1 : Blk W0 (w.heap.size + 1 + 1 + 1) 24 (Wc a) := by rw [← hW0, ← hW5, ← hW4, ← z3]; exact ((Blk.new W3 _ _).alloc _).alloc _
  have bT1 : Blk W0 (w.heap.size + 1 + 1 + 1 + 1) 3 #[.int .i64 0] := by rw [← hW0, ← hW5, ← z4]; exact (Blk.new W4 _ _).alloc _
  have bN1 : Blk W0 (w.heap.size + 1 + 1 + 1 + 1 + 1) 3 #[.int .i64 0] := by rw [← hW0, ← z5]; exact Blk.new W5 _ _
  have hB1 : Below w.heap.size w W0 := by rw [← hW0, ← hW5, ← hW4, ← hW3, ← hW2, ← hW1]; exact balloc (balloc (balloc (balloc (balloc (balloc (Below.refl _ _) _) _) _) _) _) _
  rw [hW1, hW2, hW3, hW4, hW5, hW0]
  clear hW0 hW1 hW2 hW3 hW4 hW5 z1 z2 z3 z4 z5
  have HZ := Lib.hid hsz
  refine wpIn_rangeFunc_ownH (F := Fence.wide) rfl (by omega) (gf := 46) (lb := #[.pointer (some ⟨w.heap.size + 1 + 1 + 1, 0, none⟩)]) rfl trivial (enters_of Tryd.func46 (by kernel_rfl) rfl)
    (parts_stops Fence.wide (20 - 1) trivial rfl (by omega) (w.heap.size + 1 + 1 + 1) w.heap.size a W0 bC1.lt bC1) belowK_t (belowK_b (by omega)) (Below.refl _ _) (fun _ => rfl)
    (fun pre Y => ((pre = [] ∨ ((pre.length : Nat) : Int) < m) ∧ ((((Blk Y (w.heap.size + 1 + 1 + 1 + 1 + 1) 3 #[.int .i64 (pre.length : Nat)] ∧ Blk Y (w.heap.size + 1 + 1 + 1 + 1) 3 #[.int .i64 0]) ∧ Blk Y w.heap.size 24 (Wc a)) ∧ Blk Y (w.heap.size + 1) 3 #[.int .i64 m]) ∧ (Blk Y (w.heap.size + 1 + 1) 4 #[.bool false] ∧ Blk Y (w.heap.size + 1 + 1 + 1) 24 (Wc a)))) ∧ Below w.heap.size w Y)
    (fun c pre Y => ((∃ q y, pre = q ++ [y] ∧ y.val ≠ q.length) ∧ c = .ret) ∨ (((c = .exit 2 ∧ m ≤ ((pre.length : Nat) : Int) ∧ (pre.length = 1 ∨ ((pre.length : Nat) : Int) - 1 < m) ∧ 1 ≤ pre.length) ∧ ((((Blk Y (w.heap.size + 1 + 1 + 1 + 1 + 1) 3 #[.int .i64 (pre.length : Nat)] ∧ Blk Y (w.heap.size + 1 + 1 + 1 + 1) 3 #[.int .i64 0]) ∧ Blk Y w.heap.size 24 (Wc a)) ∧ Blk Y (w.heap.size + 1) 3 #[.int .i64 m]) ∧ (Blk Y (w.heap.size + 1 + 1) 4 #[.bool false] ∧ Blk Y (w.heap.size + 1 + 1 + 1) 24 (Wc a)))) ∧ Below w.heap.size w Y))
    (OwnFrom.and (OwnFrom.and (ownFrom_pure _ _) (OwnFrom.and (OwnFrom.and (OwnFrom.and (OwnFrom.and (Own.from (blk_own _ _ (fun s : List (Fin 4) => #[Value.int .i64 (s.length : Nat)])) _) (Own.from (blk_own _ _ _) _)) (Own.from (blk_own _ _ _) _)) (Own.from (blk_own _ _ _) _)) (OwnFrom.and (Own.from (blk_own _ _ _) _) (Own.from (blk_own _ _ _) _)))) (ownFrom_below (Nat.le_refl _) (by omega)))
    (fun c => OwnFrom.or (ownFrom_pure _ _) <| OwnFrom.and (OwnFrom.and (ownFrom_pure _ _) (OwnFrom.and (OwnFrom.and (OwnFrom.and (OwnFrom.and (Own.from (blk_own _ _ (fun s : List (Fin 4) => #[Value.int .i64 (s.length : Nat)])) _) (Own.from (blk_own _ _ _) _)) (Own.from (blk_own _ _ _) _)) (Own.from (blk_own _ _ _) _)) (OwnFrom.and (Own.from (blk_own _ _ _) _) (Own.from (blk_own _ _ _) _)))) (ownFrom_below (Nat.le_refl _) (by omega)))
    ⟨⟨.inl rfl, ⟨⟨⟨bN1, bT1⟩, bA1⟩, bM1⟩, bR1, bC1⟩, hB1⟩
    (fun y a' _ => a' = { tmps := #[W a, .int .i64 m, .pointer (some ⟨w.heap.size, 0, none⟩), .pointer (some ⟨w.heap.size + 1, 0, none⟩), .pointer (some ⟨w.heap.size + 1 + 1, 0, none⟩), .func (.func 46) #[] #[.pointer (some ⟨w.heap.size + 1 + 1 + 1, 0, none⟩)], .pointer (some ⟨w.heap.size + 1 + 1 + 1 + 1, 0, none⟩), .pointer (some ⟨w.heap.size + 1 + 1 + 1 + 1 + 1, 0, none⟩), .int .i64 (y.val : Nat), .int .u64 (lb a y.val), W a, .func (.func 46) #[] #[.pointer (some ⟨w.heap.size + 1 + 1 + 1, 0, none⟩)], .func (.func 46) #[] #[.pointer (some ⟨w.heap.size + 1 + 1 + 1, 0, none⟩)], .bool false, .int .i64 0, .bool true, undef, undef, .func (.func 46) #[] #[.pointer (some ⟨w.heap.size + 1 + 1 + 1, 0, none⟩)], .int .i64 (y.val : Nat), .int .u64 (lb a y.val), undef, undef, undef, undef, undef, undef, undef, undef, undef, undef, undef, undef, undef, undef, undef, undef, undef, undef, undef, undef, undef, undef, undef, undef, undef, undef, undef, undef, undef, undef, undef, undef, undef, undef, undef, undef, undef, undef, undef, undef, undef, undef], defers := [] })
    (fun _ _ _ _ _ _ hs _ _ => hs)
    ?assign1 ?body1 ?done1 ?stop1
  case assign1 =>
    rintro l pre y X K hi hK
    gi_wp2
    exact hK _ _ (KeepsFrom.refl _ _) (Below.refl _ _) hi rfl
  case body1 =>
    rintro l pre y a' X _ _ ⟨⟨hk, ⟨⟨⟨bN, bT⟩, bA⟩, bM⟩, bR, bC⟩, hB⟩ rfl hlt
    have hy := y.isLt
    have cN := bN.cell0
    have fN := bN.frozen0
    have cT := bT.cell0
    have cM := bM.cell0
    have cR := bR.cell0
    have fR := bR.frozen0
    have cA : X.cell? ⟨w.heap.size, y.val, none⟩ = some (.int .u64 (lb a y.val)) := (cell_of_row X _ _ _ _ _ bA).trans (Wc_get a y.val hy)
    have HK := Lib.hid hk
    clear hk
    by_cases he : y.val = pre.length
    · have he1 : ((y.val : Nat) : Int) = (pre.length : Nat) := by rw [he]
      have he2 : (((y.val : Nat) : Int) != (pre.length : Nat)) = false := by rw [he1]; simp
      have hl : (((pre ++ [y]).length : Nat) : Int) = (pre.length : Nat) + 1 := by simp
      have hp4 : (pre.length : Nat) < 4 := hlt
      clear he1 he
      have G : X.grownBy (X.setCell ⟨(w.heap.size + 1 + 1 + 1 + 1 + 1), 0, none⟩ (.int .i64 ((pre.length : Nat) + 1))) (some (w.heap.size + 1 + 1 + 1 + 1 + 1)) := grown_set' (grown_refl X _) 0 _
      have bN' : Blk (X.setCell ⟨(w.heap.size + 1 + 1 + 1 + 1 + 1), 0, none⟩ (.int .i64 ((pre.length : Nat) + 1))) (w.heap.size + 1 + 1 + 1 + 1 + 1) 3 #[.int .i64 ((pre ++ [y]).length : Nat)] := by rw [hl]; exact heap_setCell_same X _ 0 _ _ _ bN
      have Kf : ∀ B, (w.heap.size + 1 + 1 + 1 + 1 + 1) < B → KeepsFrom B X (X.setCell ⟨(w.heap.size + 1 + 1 + 1 + 1 + 1), 0, none⟩ (.int .i64 ((pre.length : Nat) + 1))) := fun B hB => KeepsFrom.of_grownBy G (fun j e => by cases e; exact hB)
      have hB' := hB.setCell (p := ⟨(w.heap.size + 1 + 1 + 1 + 1 + 1), 0, none⟩) (by simp; omega) (.int .i64 ((pre.length : Nat) + 1))
      have bT' := bT.kept G (by simp)
      have bA' := bA.kept G (by simp <;> omega)
      have bM' := bM.kept G (by simp)
      have bR' := bR.kept G (by simp)
      have bC' := bC.kept G (by simp)
      have HL := Lib.hid hl
      clear hl
      by_cases hge : m ≤ (pre.length : Nat) + 1
      · gi_wp2
        refine ⟨Kf _ (by have := HZ.out; omega), .inr ⟨⟨⟨rfl, by rw [HL.out]; exact hge, ?_, by simp⟩, ⟨⟨⟨bN', bT'⟩, bA'⟩, bM'⟩, bR', bC'⟩, hB'⟩⟩
        rcases HK.out with h | h
        · left; rw [h]; rfl
        · right; rw [HL.out]; omega
      · gi_wp2
        exact ⟨Kf _ (by have := HZ.out; omega), (Below.refl _ X).setCell (p := ⟨w.heap.size + 1 + 1 + 1 + 1 + 1, 0, none⟩) (by simp; omega) _, ⟨⟨.inr (by rw [HL.out]; omega), ⟨⟨⟨bN', bT'⟩, bA'⟩, bM'⟩, bR', bC'⟩, hB'⟩⟩
    · have he1 : (((y.val : Nat) : Int) != (pre.length : Nat)) = true := by simpa using (show ¬ ((y.val : Nat) : Int) = (pre.length : Nat) by omega)
      have HE := Lib.hid he
      clear he
      gi_wp2
      exact ⟨KeepsFrom.of_grownBy (grown_set' (grown_refl X (w.heap.size + 1 + 1)) 0 _) (fun j e => by cases e; have := HZ.out; omega), .inl ⟨⟨pre, y, rfl, HE.out⟩, rfl⟩⟩
  case' done1 =>
    rintro D ys X hD rfl ⟨⟨hk, ⟨⟨⟨bN, bT⟩, bA⟩, bM⟩, bR, bC⟩, hB⟩ hK
    obtain ⟨r, hr, hr4⟩ : ∃ r : Nat, r = xs4.length ∧ (4 < m ∧ r = 4 ∨ m = r ∧ 1 ≤ r ∧ r ≤ 4 ∨ m ≤ 1 ∧ r = 1) := ⟨4, rfl, .inl ⟨by rcases hk with h | h; · cases h
                                                                                                                                   · exact h, rfl⟩⟩
    rw [← hr] at bN
    clear hr hk
  case' stop1 =>
    rintro D c pre X hD ⟨k, hm⟩ (⟨⟨q, y, h1, h2⟩, h3⟩ | ⟨⟨⟨rfl, hm1', hm2', hm3'⟩, ⟨⟨⟨bN, bT⟩, bA⟩, bM⟩, bR, bC⟩, hB⟩) hK
    · exact absurd (xs4_last k q y (by rw [← hm, h1])) h2
    obtain ⟨r, hr, hr4⟩ : ∃ r : Nat, r = pre.length ∧ (4 < m ∧ r = 4 ∨ m = r ∧ 1 ≤ r ∧ r ≤ 4 ∨ m ≤ 1 ∧ r = 1) := ⟨pre.length, rfl, by
      have h4 : pre.length ≤ 4 := by rw [hm, List.length_take]; exact Nat.min_le_right _ _
      omega⟩
    rw [← hr] at bN
    clear hr hm hm1' hm2' hm3'
  all_goals
    have cN := bN.cell0
    have cT := bT.cell0
    have cM := bM.cell0
    have hmin : min 4 (max 1 m) = (r : Int) := by omega
    gi_wp2
    rw [roundsIn_succ]
    gi_wp2
    have hDX : D < X.heap.size := (Array.getElem?_eq_some_iff.1 hK).1
    have hnX : w.heap.size + 1 + 1 + 1 < X.heap.size := bC.lt
    clear cN cT cM hmin hr4
    obtain ⟨V1, hV1⟩ : ∃ V1, X.alloc (.cells #[.int .i64 1] 3) = V1 := ⟨_, rfl⟩
    obtain ⟨V, hV⟩ : ∃ V, V1.alloc (.cells #[.int .i64 0] 3) = V := ⟨_, rfl⟩
    have y1 : V1.heap.size = X.heap.size + 1 := by rw [← hV1]; simp
    have hVs : V.heap.size = X.heap.size + 1 + 1 := by rw [← hV]; simp [y1]
    have bA2 : Blk V w.heap.size 24 (Wc a) := by rw [← hV, ← hV1]; exact (bA.alloc _).alloc _
    have bM2 : Blk V (w.heap.size + 1) 3 #[.int .i64 m] := by rw [← hV, ← hV1]; exact (bM.alloc _).alloc _
    have bR2 : Blk V (w.heap.size + 1 + 1) 4 #[.bool false] := by rw [← hV, ← hV1]; exact (bR.alloc _).alloc _
    have bC2 : Blk V (w.heap.size + 1 + 1 + 1) 24 (Wc a) := by rw [← hV, ← hV1]; exact (bC.alloc _).alloc _
    have bT2 : Blk V X.heap.size 3 #[.int .i64 1] := by rw [← hV, ← hV1]; exact (Blk.new X _ _).alloc _
    have bN2 : Blk V (X.heap.size + 1) 3 #[.int .i64 0] := by rw [← hV, ← y1]; exact Blk.new V1 _ _
    have hB2 : Below w.heap.size w V := by rw [← hV, ← hV1]; exact balloc (balloc hB _) _
    have hK2 : V.heap[D]? = some (.deferred (some [])) := by rw [← hV, ← hV1]; exact (Below.heap_alloc _ _ D (by simp; omega)).trans ((Below.heap_alloc _ _ D hDX).trans hK)
    have hDV : D < V.heap.size := by omega
    rw [hV1, hV]
    clear hV hV1 y1 bA bM bR bC bT bN hB hK
    have HX := Lib.hid hVs
    refine wpIn_rangeFunc_ownH (F := Fence.wide) rfl (by omega) (gf := 46) (lb := #[.pointer (some ⟨w.heap.size + 1 + 1 + 1, 0, none⟩)]) rfl trivial (enters_of Tryd.func46 (by kernel_rfl) rfl)
      (parts_stops Fence.wide (20 - 1) trivial rfl (by omega) (w.heap.size + 1 + 1 + 1) w.heap.size a V bC2.lt bC2) belowK_t (belowK_b (by omega)) (Below.refl _ _) (fun _ => rfl)
      (fun pre Y => ((((Blk Y (X.heap.size + 1) 3 #[.int .i64 (pre.length : Nat)] ∧ Blk Y X.heap.size 3 #[.int .i64 1]) ∧ Blk Y w.heap.size 24 (Wc a)) ∧ Blk Y (w.heap.size + 1) 3 #[.int .i64 m]) ∧ ((Blk Y (w.heap.size + 1 + 1) 4 #[.bool false] ∧ Blk Y (w.heap.size + 1 + 1 + 1) 24 (Wc a)) ∧ Y.heap[D]? = some (.deferred (some [])))) ∧ Below w.heap.size w Y)
      (fun c pre Y => (∃ q y, pre = q ++ [y] ∧ y.val ≠ q.length) ∧ c = .ret)
      (OwnFrom.and (OwnFrom.and (OwnFrom.and (OwnFrom.and (OwnFrom.and (Own.from (blk_own _ _ (fun s : List (Fin 4) => #[Value.int .i64 (s.length : Nat)])) _) (Own.from (blk_own _ _ _) _)) (Own.from (blk_own _ _ _) _)) (Own.from (blk_own _ _ _) _)) (OwnFrom.and (OwnFrom.and (Own.from (blk_own _ _ _) _) (Own.from (blk_own _ _ _) _)) (ownFrom_obj hDV))) (ownFrom_below (Nat.le_refl _) (by omega)))
      (fun c => ownFrom_pure _ _)
      ⟨⟨⟨⟨⟨bN2, bT2⟩, bA2⟩, bM2⟩, ⟨bR2, bC2⟩, hK2⟩, hB2⟩
      (fun y a' _ => a' = { tmps := #[W a, .int .i64 m, .pointer (some ⟨w.heap.size, 0, none⟩), .pointer (some ⟨w.heap.size + 1, 0, none⟩), .pointer (some ⟨w.heap.size + 1 + 1, 0, none⟩), .func (.func 46) #[] #[.pointer (some ⟨w.heap.size + 1 + 1 + 1, 0, none⟩)], .pointer (some ⟨X.heap.size, 0, none⟩), .pointer (some ⟨X.heap.size + 1, 0, none⟩), .int .i64 (y.val : Nat), .int .u64 (lb a y.val), W a, .func (.func 46) #[] #[.pointer (some ⟨w.heap.size + 1 + 1 + 1, 0, none⟩)], .func (.func 46) #[] #[.pointer (some ⟨w.heap.size + 1 + 1 + 1, 0, none⟩)], .bool false, .int .i64 1, .bool true, .int .i64 0, .int .i64 1, .func (.func 46) #[] #[.pointer (some ⟨w.heap.size + 1 + 1 + 1, 0, none⟩)], .int .i64 (y.val : Nat), .int .u64 (lb a y.val), undef, undef, undef, undef, undef, undef, undef, undef, undef, undef, undef, undef, undef, undef, undef, undef, undef, undef, undef, undef, undef, undef, undef, .int .i64 0, .bool true, .bool true, .int .i64 r, .int .i64 m, .int .i64 (max 1 m), .int .i64 r, .bool false, .bool false, .bool false, .int .i64 0, .bool false, .bool false, undef, undef, .bool false, .bool false, .int .i64 0, undef], defers := [] })
      (fun _ _ _ _ _ _ hs _ _ => hs)
      ?assign2 ?body2 ?done2 ?stop2
    case assign2 =>
      rintro l pre y Z K hi hK
      gi_wp2
      exact hK _ _ (KeepsFrom.refl _ _) (Below.refl _ _) hi rfl
    case body2 =>
      rintro l pre y a' Z _ _ ⟨⟨⟨⟨⟨bN, bT⟩, bA⟩, bM⟩, ⟨bR, bC⟩, hKD⟩, hB⟩ rfl hlt
      have hy := y.isLt
      have cN := bN.cell0
      have fN := bN.frozen0
      have cT := bT.cell0
      have cR := bR.cell0
      have fR := bR.frozen0
      have cA : Z.cell? ⟨w.heap.size, y.val, none⟩ = some (.int .u64 (lb a y.val)) := (cell_of_row Z _ _ _ _ _ bA).trans (Wc_get a y.val hy)
      have HD := Lib.hid hKD
      clear hKD
      by_cases he : y.val = pre.length
      · have he1 : ((y.val : Nat) : Int) = (pre.length : Nat) := by rw [he]
        have he2 : (((y.val : Nat) : Int) != (pre.length : Nat)) = false := by rw [he1]; simp
        have hl : (((pre ++ [y]).length : Nat) : Int) = (pre.length : Nat) + 1 := by simp
        have hp4 : (pre.length : Nat) < 4 := hlt
        clear he1 he
        have G : Z.grownBy (Z.setCell ⟨(X.heap.size + 1), 0, none⟩ (.int .i64 ((pre.length : Nat) + 1))) (some (X.heap.size + 1)) := grown_set' (grown_refl Z _) 0 _
        have bN' : Blk (Z.setCell ⟨(X.heap.size + 1), 0, none⟩ (.int .i64 ((pre.length : Nat) + 1))) (X.heap.size + 1) 3 #[.int .i64 ((pre ++ [y]).length : Nat)] := by rw [hl]; exact heap_setCell_same Z _ 0 _ _ _ bN
        have hB' := hB.setCell (p := ⟨(X.heap.size + 1), 0, none⟩) (by simp; omega) (.int .i64 ((pre.length : Nat) + 1))
        have bT' := bT.kept G (by simp)
        have bA' := bA.kept G (by simp <;> omega)
        have bM' := bM.kept G (by simp <;> omega)
        have bR' := bR.kept G (by simp <;> omega)
        have bC' := bC.kept G (by simp <;> omega)
        have hK' : (Z.setCell ⟨(X.heap.size + 1), 0, none⟩ (.int .i64 ((pre.length : Nat) + 1))).heap[D]? = some (.deferred (some [])) := (Below.heap_setCell Z ⟨(X.heap.size + 1), 0, none⟩ _ D (by simp; omega)).trans HD.out
        have HK' := Lib.hid hK'
        clear hl hK'
        gi_wp2
        exact ⟨KeepsFrom.of_grownBy G (fun j e => by cases e; have := HX.out; omega), (Below.refl _ Z).setCell (p := ⟨(X.heap.size + 1), 0, none⟩) (by simp; omega) _, ⟨⟨⟨⟨bN', bT'⟩, bA'⟩, bM'⟩, ⟨bR', bC'⟩, HK'.out⟩, hB'⟩
      · have he1 : (((y.val : Nat) : Int) != (pre.length : Nat)) = true := by simpa using (show ¬ ((y.val : Nat) : Int) = (pre.length : Nat) by omega)
        have HE := Lib.hid he
        clear he
        gi_wp2
        exact ⟨KeepsFrom.of_grownBy (grown_set' (grown_refl Z (w.heap.size + 1 + 1)) 0 _) (fun j e => by cases e; have := HX.out; omega), ⟨pre, y, rfl, HE.out⟩, rfl⟩
    case stop2 =>
      rintro D2 c pre Z hD2 ⟨k, hm⟩ ⟨⟨q, y, h1, h2⟩, h3⟩ hK3
      exact absurd (xs4_last k q y (by rw [← hm, h1])) h2
    case done2 =>
      rintro D2 ys Z hD2 rfl ⟨⟨⟨⟨⟨bN, bT⟩, bA⟩, bM⟩, ⟨bR, bC⟩, hKD⟩, hB⟩ hK3
      have cN : Z.cell? ⟨X.heap.size + 1, 0, none⟩ = some (.int .i64 4) := bN.cell0
      have cT := bT.cell0
      have hZs : V.heap.size ≤ Z.heap.size := by have := (Array.getElem?_eq_some_iff.1 hK3).1; omega
      gi_wp2
      rw [roundsIn_succ]
      gi_wp2_with fail
      refine ⟨trivial, ?_⟩
      refine (callsIn_wide.2 (works_any _)).mono ?_
      rintro e w9 ⟨rfl, hb9⟩
      have bR9 : Blk w9 (w.heap.size + 1 + 1) 4 #[.bool false] := Blk.below (by first | exact bR.alloc _ | exact bR) hb9
      have hD9 : w9.heap[D]? = some (.deferred (some [])) := (hb9.block D (by simp; omega)).trans (by first | exact (Below.heap_alloc _ _ D (by omega)).trans hKD | exact hKD)
      have hE9 : w9.heap[D2]? = some (.deferred (some [])) := (hb9.block D2 (by have := (Array.getElem?_eq_some_iff.1 hK3).1; simp; omega)).trans (by first | exact (Below.heap_alloc _ _ D2 (Array.getElem?_eq_some_iff.1 hK3).1).trans hK3 | exact hK3)
      have hB9 : Below w.heap.size w w9 := bstep (by first | exact balloc hB _ | exact hB) hb9
      have cR9 := bR9.cell0
      have fR9 := bR9.frozen0
      clear hb9 cN cT
      gi_wp2
      have hDY : (w9.setCell ⟨w.heap.size + 1 + 1, 0, none⟩ (.bool true)).heap[D]? = some (.deferred (some [])) := (Below.heap_setCell w9 ⟨w.heap.size + 1 + 1, 0, none⟩ _ D (by have := HZ.out; simp; omega)).trans hD9
      have hEY : (w9.setCell ⟨w.heap.size + 1 + 1, 0, none⟩ (.bool true)).heap[D2]? = some (.deferred (some [])) := (Below.heap_setCell w9 ⟨w.heap.size + 1 + 1, 0, none⟩ _ D2 (by have := HZ.out; simp; omega)).trans hE9
      have bY : Blk (w9.setCell ⟨w.heap.size + 1 + 1, 0, none⟩ (.bool true)) (w.heap.size + 1 + 1) 4 #[.bool true] := heap_setCell_same w9 _ 0 _ _ _ bR9
      have hBY : Below w.heap.size w (w9.setCell ⟨w.heap.size + 1 + 1, 0, none⟩ (.bool true)) := hB9.setCell (p := ⟨w.heap.size + 1 + 1, 0, none⟩) (by simp; omega) _
      obtain ⟨Y, hY⟩ : ∃ Y, w9.setCell ⟨w.heap.size + 1 + 1, 0, none⟩ (.bool true) = Y := ⟨_, rfl⟩
      rw [hY] at hDY hEY bY hBY ⊢
      clear hY hD9 hE9 bR9 cR9 fR9 hB9
      have hD2' : (Y.putObj D2 (.deferred none)).heap[D]? = some (.deferred (some [])) := (World.putObj_heap_other (by omega)).trans hDY
      have bY2 : Blk (Y.putObj D2 (.deferred none)) (w.heap.size + 1 + 1) 4 #[.bool true] := bY.kept (grownBy_putObj' Y D2 _) (by have := HZ.out; intro e; cases e; omega)
      have bY3 : Blk ((Y.putObj D2 (.deferred none)).putObj D (.deferred none)) (w.heap.size + 1 + 1) 4 #[.bool true] := bY2.kept (grownBy_putObj' _ D _) (by have := HZ.out; intro e; cases e; omega)
      have q0 := bY3.cell0
      refine ⟨by simp, .inl ⟨_, _, rfl, run_takeDeferred hEY, ?_⟩⟩
      refine ⟨by simp, .inl ⟨_, _, rfl, run_takeDeferred hD2', ?_⟩⟩
      exact ⟨.bool true, by simp [results, Tryd.results7, go_sem, q0], rfl, (hBY.trans (belowK_b (w := w) (Nat.le_refl _) Y D2 _ _ (by have := HZ.out; omega) hEY rfl rfl)).trans (belowK_b (w := w) (Nat.le_refl _) (Y.putObj D2 (.deferred none)) D _ _ (by have := HZ.out; omega) hD2' rfl rfl)⟩

end Go.Proofs.YtimmcljpfpimbaaDoor
