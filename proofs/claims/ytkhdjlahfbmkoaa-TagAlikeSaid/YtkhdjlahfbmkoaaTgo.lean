/- tag: Alike. -/
import Derived.Test.YtkhdjlahfbmkoaaTgn
namespace Go.Proofs.Ytkhdjlahfbmkoaa
open Go.RowKit Go.Shelf

/-- Alike: what stands between two rounds. -/
def AlI (B C b0 g1 n₀ up : Nat) (va vb : Value) (a b : List (Nat × Nat)) (e0 : Bool) (w : World) (pre : List Nat) (X : World) : Prop :=
  (Blk X b0 22 #[vb] ∧ Blk X g1 4 #[.bool e0]) ∧ KnB (g1 + 1) (g1 + 1 + 1) B va up a X ∧ Cs C X vb b ∧ Below n₀ w X ∧ (pre ≠ [] → e0 = true) ∧ ∀ j ∈ pre, (cg a j).1 = (cg b j).1
def AlX (g1 n₀ up : Nat) (a b : List (Nat × Nat)) (w : World) (c : Code) (_ : List Nat) (X : World) : Prop := c = .exit 0 ∧ Blk X g1 4 #[.bool false] ∧ Below n₀ w X ∧ alB a b up = false
theorem AlI.stay {B C b0 g1 n₀ up D : Nat} {va vb : Value} {a b : List (Nat × Nat)} {e0 : Bool} {w : World} (hB : B ≤ D) (hC : C ≤ D) (hb0 : b0 < D) (hg : g1 + 1 + 1 < D) (hn : n₀ ≤ w.heap.size) (hnD : n₀ ≤ D) : StayM (fun k => noM k ∨ k = D ∨ k = D + 1) (AlI B C b0 g1 n₀ up va vb a b e0 w) := fun pre X Y row h hw hr => by
  obtain ⟨⟨h1, h2⟩, ⟨⟨h3, h4⟩, h5⟩, h6, h7, h8, h9⟩ := h
  have hne : ∀ r, row = some r → r = D ∨ r = D + 1 := fun r e => by rcases hr r e with h | h | h; exact h.elim; exact .inl h; exact .inr h
  have hk : ∀ i, i < D → i < X.heap.size → Y.heap[i]? = X.heap[i]? := fun i hi hx => hw.block i hx (fun e => by rcases hne _ e.symm with h | h <;> omega)
  exact ⟨⟨(hk _ hb0 h1.lt).trans h1, (hk _ (by omega) h2.lt).trans h2⟩, ⟨⟨(hk _ (by omega) h3.lt).trans h3, (hk _ (by omega) h4.lt).trans h4⟩, h5.kept hw.size (fun i hi hx => hk i (by omega) hx)⟩, h6.kept hw.size (fun i hi hx => hk i (by omega) hx), h7.grown hw (Nat.le_trans hn h7.size) (fun r e => by rcases hne r e with h | h <;> omega), h8, h9⟩
theorem AlX.stay {g1 n₀ up D : Nat} {a b : List (Nat × Nat)} {w : World} (hg : g1 < D) (hn : n₀ ≤ w.heap.size) (hnD : n₀ ≤ D) (c : Code) : StayM (fun k => noM k ∨ k = D ∨ k = D + 1) (AlX g1 n₀ up a b w c) := fun pre X Y row h hw hr => by
  obtain ⟨h1, h2, h3, h4⟩ := h
  have hne : ∀ r, row = some r → r = D ∨ r = D + 1 := fun r e => by rcases hr r e with h | h | h; exact h.elim; exact .inl h; exact .inr h
  exact ⟨h1, (hw.block _ h2.lt (fun e => by rcases hne _ e.symm with h | h <;> omega)).trans h2, h3.grown hw (Nat.le_trans hn h3.size) (fun r e => by rcases hne r e with h | h <;> omega), h4⟩
theorem alB_eqL {a b : List (Nat × Nat)} (up : Nat) (h : eqL a b = false) : alB a b up = false := by
  cases hv : alB a b up with
  | false => rfl
  | true =>
    unfold alB at hv
    rw [Bool.and_eq_true] at hv
    have : eqL a b = true := by
      unfold eqL
      rw [Bool.and_eq_true]
      refine ⟨hv.1, List.all_eq_true.2 fun k hk => ?_⟩
      have := List.all_eq_true.1 hv.2 k hk
      rw [Bool.and_eq_true] at this
      exact this.1
    rw [this] at h; cases h
theorem alB_byte {a b : List (Nat × Nat)} {up x : Nat} (hx : x < a.length) (hs : sub (cg a x).2 up = true) (h : (cg a x).1 ≠ (cg b x).1) : alB a b up = false := by
  unfold alB
  rw [all_range_false _ hx (by unfold beqU; rw [hs]; simp [h])]
  simp
theorem alB_all {a b : List (Nat × Nat)} {up : Nat} {e0 : Bool} (he : eqL a b = e0) (h : ∀ j ∈ knK a up a.length, (cg a j).1 = (cg b j).1) : alB a b up = e0 := by
  cases e0 with
  | false => exact alB_eqL up he
  | true =>
    unfold eqL at he
    unfold alB
    rw [Bool.and_eq_true] at he ⊢
    refine ⟨he.1, List.all_eq_true.2 fun k hk => ?_⟩
    rw [Bool.and_eq_true]
    refine ⟨List.all_eq_true.1 he.2 k hk, ?_⟩
    unfold beqU
    cases hs : sub (cg a k).2 up with
    | false => rfl
    | true =>
      have := h k (by unfold knK; rw [List.mem_filter]; exact ⟨hk, hs⟩)
      simp [this]
attribute [local go_sem] Oper.semAt_some
set_option maxRecDepth 100000 in
set_option maxHeartbeats 4000000 in
theorem talike_any (B C up : Nat) (hup : up < 2 ^ 64) (va vb : Value) (a b : List (Nat × Nat)) (w : World) (hB : B ≤ w.heap.size) (hC : C ≤ w.heap.size) (ha : Cs B w va a) (hb : Cs C w vb b) :
    Calls Try.prog 25 #[va, vb, .int .u64 (up : Nat)] w fun e w' => e = .returned (.bool (alB a b up)) ∧ Below w.heap.size w w' := by
  have hal := balloc (Below.refl w.heap.size w) (.cells #[vb] 22)
  have hN := Blk.new w 22 #[vb]
  have HE := Lib.hid (equalFunc_any B C va vb a b _ (ha.new hal) (hb.new hal))
  have HS := Lib.hid (And.intro hal (And.intro hN (And.intro (ha.new hal) (hb.new hal))))
  have HL := Lib.hid (And.intro hB (And.intro hC hup))
  obtain ⟨xa, ca, rfl⟩ := ha.is
  obtain ⟨xb, cb, rfl⟩ := hb.is
  obtain ⟨e0, he0⟩ : ∃ e0, eqL a b = e0 := ⟨_, rfl⟩
  rw [he0] at HE
  have HE0 := Lib.hid he0
  obtain ⟨n, hn⟩ : ∃ n, a.length = n := ⟨_, rfl⟩
  obtain ⟨m, hm⟩ : ∃ m, b.length = m := ⟨_, rfl⟩
  have HNM := Lib.hid (And.intro hn hm)
  rw [hn, hm] at HE HS ⊢
  clear ha hb hB hC hup hal hN he0 hn hm
  refine (callsIn_wide (n := 20)).1 ?_
  refine callsIn_of_wp_marks Try.func25 rfl trivial ?_ rfl
  simp only [Try.ntmps25, List.size_toArray, List.length_cons, List.length_nil, Nat.reduceAdd, Nat.reduceSub, Array.replicate_succ, Array.replicate_zero, List.push_toArray, List.append_toArray, List.nil_append, List.cons_append]
  refine (wpIn_wide (n := 20)).2 ?_
  go_wp2_with fail
  refine wp_scope_straight ?_
  go_wp2_with (first
    | (go_at_call 48; refine (HE.out).mono ?_; rintro e w1 ⟨rfl, hw1⟩; have H1 := Lib.hid hw1; have c0 := cell_of_row _ _ 0 _ _ _ (HS.out.2.1.keep hw1); clear hw1)
    | (go_at_call 47; refine (tknown_any _ _ _ _ _).mono ?_; rintro e w2 ⟨rfl, rfl⟩)
    | fail)
  refine wp_label ?_
  go_wp2_with (first
    | (go_at_call 48; refine (HE.out).mono ?_; rintro e w1 ⟨rfl, hw1⟩; have H1 := Lib.hid hw1; have c0 := cell_of_row _ _ 0 _ _ _ (HS.out.2.1.keep hw1); clear hw1)
    | (go_at_call 47; refine (tknown_any _ _ _ _ _).mono ?_; rintro e w2 ⟨rfl, rfl⟩)
    | fail)
  have hL1 : w.heap.size + 1 ≤ w1.heap.size := by have := H1.out.size; rw [World.size_alloc] at this; exact this
  obtain ⟨W3, hW3⟩ : ∃ W3, (((w1.alloc (.cells #[.bool e0] 4)).alloc (.cells #[.slice xa n ca] 71)).alloc (.cells #[.int .u64 (up : Nat)] 27)) = W3 := ⟨_, rfl⟩
  have hb13 : Below w1.heap.size w1 W3 := by rw [← hW3]; exact balloc (balloc (balloc (Below.refl _ _) _) _) _
  have hg1 : Blk W3 w1.heap.size 4 #[.bool e0] := by rw [← hW3]; exact ((Blk.new w1 _ _).alloc _).alloc _
  have hg2 : Blk W3 (w1.heap.size + 1) 71 #[.slice xa n ca] := by rw [← hW3]; exact (Blk.newS w1 _ _ _).alloc _
  have hg3 : Blk W3 (w1.heap.size + 1 + 1) 27 #[.int .u64 (up : Nat)] := by
    rw [← hW3]
    have h := Blk.newS (w1.alloc (.cells #[.bool e0] 4)) (.cells #[.slice xa n ca] 71) 27 #[.int .u64 (up : Nat)]
    rwa [World.size_alloc] at h
  have hsz : W3.heap.size = w1.heap.size + 3 := by rw [← hW3]; simp
  rw [hW3]
  clear hW3 c0
  have hb3 : Blk W3 w.heap.size 22 #[.slice xb m cb] := (HS.out.2.1.keep H1.out).keep hb13
  have hbel : Below w.heap.size w W3 := bstep (bstep HS.out.1 H1.out) hb13
  have hca : Cs B W3 (.slice xa n ca) a := (HS.out.2.2.1.new H1.out).new hb13
  have hcb : Cs C W3 (.slice xb m cb) b := (HS.out.2.2.2.new H1.out).new hb13
  have hI0 : AlI B C w.heap.size w1.heap.size w.heap.size up (.slice xa n ca) (.slice xb m cb) a b e0 w [] W3 := ⟨⟨hb3, hg1⟩, ⟨⟨hg2, hg3⟩, hca⟩, hcb, hbel, fun h => (h rfl).elim, by simp⟩
  have HSZ := Lib.hid (And.intro hsz hL1)
  have hsz' := hsz
  clear hb13 hg1 hg2 hg3 hb3 hca hcb
  generalize w1.heap.size = g1 at *
  refine (wpIn_wide (n := 20)).1 ?_
  refine wpIn_rangeV (n := 20) (by omega) (gf := 59) (lb := #[.pointer (some ⟨g1 + 1, 0, none⟩), .pointer (some ⟨g1 + 1 + 1, 0, none⟩)]) rfl enters_known
    (known_seq (20 - 1) (by omega) (g1 + 1) (g1 + 1 + 1) B w.heap.size up HL.out.2.2 (.slice xa n ca) a W3) (Below.refl _ _) hbel.size (fun k h => h.elim) (fun _ => rfl)
    (AlI B C w.heap.size g1 w.heap.size up (.slice xa n ca) (.slice xb m cb) a b e0 w) (AlX g1 w.heap.size up a b w)
    (AlI.stay (by have := HL.out.1; omega) (by have := HL.out.2.1; omega) (by omega) (by omega) (Nat.le_refl _) (by omega)) (fun c => AlX.stay (by omega) (Nat.le_refl _) (by omega) c) (fun pre X h => h.2.1) hI0
    (fun x a' _ => a' = { tmps := #[.slice xa n ca, .slice xb m cb, .int .u64 (up : Nat), undef, .pointer (some ⟨w.heap.size, 0, none⟩), undef, .bool false, .pointer (some ⟨g1, 0, none⟩), .int .i64 x, .int .u8 ((cg a x).1 : Nat), .slice xa n ca, .slice xb m cb, .bool e0, .slice xa n ca, .int .u64 (up : Nat), .func (.func 59) #[] #[.pointer (some ⟨g1 + 1, 0, none⟩), .pointer (some ⟨g1 + 1 + 1, 0, none⟩)], .int .i64 x, .int .u8 ((cg a x).1 : Nat), undef, undef, undef, undef, undef, undef, undef, undef, undef, undef, undef, undef, undef], defers := [] })
    (fun x a' _ _ _ _ hs _ _ => hs)
    ?assign ?body ?done ?stop
  case assign =>
    rintro l2 pre x X K _ _ hi hK
    gi_wp2_with fail
    exact hK _ _ (KeptM.refl _ _) (Below.refl _ _) hi rfl
  case stop =>
    rintro D c pre X hD _ ⟨rfl, h2, h3, h4⟩ hK
    have hDs : D = g1 + 3 := by omega
    have hgD : X.grownBy (X.putObj D (.deferred none)) (some D) := grownBy_putObj' X D _
    have cL : X.cell? ⟨g1, 0, none⟩ = some (.bool false) := cell_of_row X _ 0 _ _ _ h2
    have HX := Lib.hid (And.intro hK (And.intro h4 (h3.trans (below_put X (.deferred none) (show w.heap.size ≤ D by omega)))))
    clear hK h2 h3 h4 hgD hI0 hbel hsz hsz'
    gi_wp2_with fail
    go_wp2_with fail
    refine ⟨by simp, .inl ⟨_, _, rfl, run_takeDeferred HX.out.1, ?_⟩⟩
    rw [HX.out.2.1]
    exact ⟨_, by simp [results, Try.results25, go_sem] <;> rfl, rfl, HX.out.2.2⟩
  case done =>
    rintro D xs X hD rfl ⟨⟨h1, h2⟩, _, _, h7, h8, h9⟩ hK
    have hDs : D = g1 + 3 := by omega
    have cL : X.cell? ⟨g1, 0, none⟩ = some (.bool e0) := cell_of_row X _ 0 _ _ _ h2
    have HX := Lib.hid (And.intro hK (And.intro (alB_all HE0.out h9) (h7.trans (below_put X (.deferred none) (show w.heap.size ≤ D by omega)))))
    clear hK h1 h2 h7 h8 h9 hI0 hbel hsz hsz'
    go_wp2_with fail
    refine ⟨by simp, .inl ⟨_, _, rfl, run_takeDeferred HX.out.1, ?_⟩⟩
    rw [HX.out.2.1]
    exact ⟨_, by simp [results, Try.results25, go_sem] <;> rfl, rfl, HX.out.2.2⟩
  case body =>
    rintro l2 pre x a' X hl2 ⟨hpre, hx, hs⟩ hlo ⟨⟨h1, h2⟩, h3, h6, h7, h8, h9⟩ rfl
    have cB : X.cell? ⟨w.heap.size, 0, none⟩ = some (.slice xb m cb) := cell_of_row X _ 0 _ _ _ h1
    have cL : X.cell? ⟨g1, 0, none⟩ = some (.bool e0) := cell_of_row X _ 0 _ _ _ h2
    have fL := frozen_of_row X g1 0 _ _ h2
    have hgs : ∀ v, X.grownBy (X.setCell ⟨g1, 0, none⟩ v) (some g1) := fun v => grown_set' (grown_refl X g1) 0 v
    have hKM : ∀ v, KeptM (fun k => noM k ∨ k = W3.heap.size ∨ k = W3.heap.size + 1) X (X.setCell ⟨g1, 0, none⟩ v) := fun v => KeptM.grown (hgs v) (fun r e h => by cases e; rcases h with h | h | h; exact h.elim; omega; omega)
    have hBX : ∀ v, Below w.heap.size X (X.setCell ⟨g1, 0, none⟩ v) := fun v => (Below.refl _ X).setCell (p := ⟨g1, 0, none⟩) (by show w.heap.size ≤ g1; omega) v
    have HG := Lib.hid (And.intro hKM hBX)
    have H2 := Lib.hid h2
    have H7 := Lib.hid h7
    cases e0 with
    | false =>
      have HF := Lib.hid (alB_eqL up HE0.out)
      clear hKM hBX hgs h1 h2 h3 h6 h7 h8 h9 hpre hlo hI0 hbel hsz hsz' hl2
      gi_wp2_with (first | (with_reducible refine And.intro (fun f h => (by cases h)) ?_) | fail)
      exact ⟨HG.out.1 _, rfl, heap_setCell_same X g1 0 _ _ _ H2.out, H7.out.trans (HG.out.2 _), HF.out⟩
    | true =>
      have hlen : a.length = b.length := by
        have := HE0.out
        unfold eqL at this
        rw [Bool.and_eq_true] at this
        exact beq_iff_eq.1 this.1
      obtain ⟨b2, o2, c2, e, _, d2, d3⟩ := Cs.at h6 (k := x) (by omega)
      injection e with e4 e5 e6
      subst e4 e6
      have hxm : (x : Int) < (m : Int) := by have := HNM.out; omega
      have HI := Lib.hid (And.intro h1 (And.intro h3 (And.intro h6 h9)))
      have HQ := Lib.hid (And.intro hx hs)
      clear hKM hBX hgs h1 h2 h3 h6 h7 h8 h9 hpre hlo hI0 hbel hsz hsz' hl2 d3 e5 hlen
      by_cases hq : (cg a x).1 = (cg b x).1
      · have hqI : (((cg b x).1 : Int) == ((cg a x).1 : Int)) = true := by rw [hq]; simp
        have HR := Lib.hid hq
        clear hq
        gi_wp2_with (first | (with_reducible refine And.intro (fun f h => (by cases h)) ?_) | fail)
        have hk : ∀ i, i ≠ g1 → (X.setCell ⟨g1, 0, none⟩ (.bool true)).heap[i]? = X.heap[i]? := fun i hi => heap_setCell_other X ⟨g1, 0, none⟩ i _ hi
        have hsT : X.heap.size ≤ (X.setCell ⟨g1, 0, none⟩ (.bool true)).heap.size := (HG.out.2 _).size
        have hB0 := HL.out.1
        have hC0 := HL.out.2.1
        refine ⟨HG.out.1 _, HG.out.2 _, ⟨(hk _ (by omega)).trans HI.out.1, heap_setCell_same X g1 0 _ _ _ H2.out⟩, ⟨⟨(hk _ (by omega)).trans HI.out.2.1.1.1, (hk _ (by omega)).trans HI.out.2.1.1.2⟩, HI.out.2.1.2.kept hsT (fun i hi _ => hk i (by omega))⟩, HI.out.2.2.1.kept hsT (fun i hi _ => hk i (by omega)), H7.out.trans (HG.out.2 _), fun _ => rfl, fun j hj => ?_⟩
        rcases List.mem_append.1 hj with h | h
        · exact HI.out.2.2.2 j h
        · simp at h; subst h; exact HR.out
      · have hqI : (((cg b x).1 : Int) == ((cg a x).1 : Int)) = false := by rw [beq_eq_false_iff_ne]; omega
        have HF := Lib.hid (alB_byte HQ.out.1 HQ.out.2 hq)
        clear hq
        gi_wp2_with (first | (with_reducible refine And.intro (fun f h => (by cases h)) ?_) | fail)
        exact ⟨HG.out.1 _, rfl, heap_setCell_same X g1 0 _ _ _ H2.out, H7.out.trans (HG.out.2 _), HF.out⟩
end Go.Proofs.Ytkhdjlahfbmkoaa
