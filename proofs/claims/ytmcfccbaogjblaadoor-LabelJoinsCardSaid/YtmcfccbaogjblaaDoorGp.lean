/- label's law: LabelMembers: the walk. -/
import Derived.Test.YtmcfccbaogjblaaDoorGk
import Derived.Deep.CutRange
import Derived.Deep.DeepCutAuto
namespace Go.Proofs.YtmcfccbaogjblaaDoor
open Go.RowKit Go.Shelf
attribute [local go_sem] Oper.semAt_some
/-- How far a walk goes that is left behind n bits, or behind the first. -/
theorem many_done (N : Nat) (n : Int) (h : N = 0 ∨ (N : Int) < n) : min (N : Int) (max 1 n) = N := by omega
theorem many_left (N k : Nat) (n : Int) (h1 : 1 ≤ k) (h2 : k ≤ N) (h3 : n ≤ k) (h4 : k = 1 ∨ (k : Int) - 1 < n) : min (N : Int) (max 1 n) = k := by omega
/-- Ways that meet at the head of a round: what follows is shown once. -/
theorem join_rounds {F : Nat → World → Prop} {FR : Nat → Nat → Value → Value → Value → Act} {WX : World → World} {G : Act → World → Prop} {R : Prop}
    (f : Kept1 (∀ D X v1 v2 v3, F D X → G (FR D X.heap.size v1 v2 v3) (WX X)) → R) (t : ∀ D X v1 v2 v3, F D X → G (FR D X.heap.size v1 v2 v3) (WX X)) : R := f ⟨t⟩
theorem eb_get (a x : Nat) (hx : x < 64) (h : a.testBit x = true) : (eb a 64)[(eb a x).length]? = some x ∧ (eb a x).length + 1 ≤ (eb a 64).length := by
  obtain ⟨r, hr⟩ := eb_pre a (x + 1) (63 - x)
  rw [show x + 1 + (63 - x) = 64 by omega, eb_hit a x h] at hr
  rw [hr]
  constructor
  · simp
  · simp
/-- What stands in the law's boxes all the while: the number, the answer, the wanted list. -/
def EF (a : Nat) (n : Int) (x : Option Addr) (cap gs : Nat) (w X : World) : Prop :=
  (((Blk X w.heap.size 3 #[.int .i64 n] ∧ Blk X (w.heap.size + 1) 4 #[.bool false]) ∧ Blk X gs 39 #[.slice x (eb a 64).length cap]) ∧ X.ownsRow (w.heap.size + 2) 3 1 (.slice x (eb a 64).length cap) (eb a 64).length (ebC a 64)) ∧ Below w.heap.size w X
theorem EF.abide {β : Type} {a : Nat} {n : Int} {x : Option Addr} {cap gs : Nat} {w X0 : World} {q : Nat} (h : EF a n x cap gs w X0) (hB : X0.heap.size ≤ q) : Abide q (fun (_ : β) X => EF a n x cap gs w X) := by
  obtain ⟨⟨⟨⟨h2, h3⟩, h4⟩, h5⟩, h6⟩ := h
  exact ((((Abide.blk (Nat.lt_of_lt_of_le h2.lt hB) _ (fun _ => _)).and (Abide.blk (Nat.lt_of_lt_of_le h3.lt hB) _ (fun _ => _))).and (Abide.blk (Nat.lt_of_lt_of_le h4.lt hB) _ (fun _ => _))).and (Abide.owns h5 hB)).and (Abide.below (Nat.le_refl _) (Nat.le_trans h6.size hB))
theorem EF.alloc {a : Nat} {n : Int} {x : Option Addr} {cap gs : Nat} {w X : World} (h : EF a n x cap gs w X) (o : Obj) : EF a n x cap gs w (X.alloc o) := (EF.abide (β := Unit) h (Nat.le_refl _)).alloc (s := ()) o h
theorem EF.new {a : Nat} {n : Int} {x : Option Addr} {cap gs : Nat} {w X Y : World} (h : EF a n x cap gs w X) (k : Below X.heap.size X Y) : EF a n x cap gs w Y := (EF.abide (β := Unit) h (Nat.le_refl _)).new (s := ()) h k
/-- The wanted principal at its place. -/
theorem EF.want {a : Nat} {n : Int} {x : Option Addr} {cap gs : Nat} {w X : World} (h : EF a n x cap gs w X) {k b : Nat} (hk : (eb a 64)[k]? = some b) : ∃ g, x = some ⟨g, 0, none⟩ ∧ g < X.heap.size ∧ X.cell? ⟨g, k, none⟩ = some (.int .i64 b) := Go.Proofs.YtmcfccbaogjblaaDoor.want h.1.2 hk

set_option maxRecDepth 100000 in
set_option maxHeartbeats 4000000 in
theorem members_walk (a : Nat) (n : Int) (ha : a < 2 ^ 64) (w : World) (hT : TZ w) :
    Calls Tryd.prog 5 #[.int .u64 (a : Nat), .int .i64 n] w fun e w' => e = .returned (.bool true) ∧ Below w.heap.size w w' := by
  have hnil : ∀ (p : Value) w, (binOp .eql 42 (.func (.func 34) #[] #[p]) .nilFunc).run Tryd.prog w = .ok (.bool false) w := fun _ _ => by kernel_rfl
  have HT := Lib.hid hT
  have HA := Lib.hid ha
  have hle := eb_len a 64
  clear ha hT
  refine (callsIn_wide (n := 20)).1 ?_
  refine callsIn_of_wp_marks Tryd.func5 rfl trivial ?_ rfl
  simp only [Tryd.ntmps5, List.size_toArray, List.length_cons, List.length_nil, Nat.reduceAdd, Nat.reduceSub, Array.replicate_succ, Array.replicate_zero, List.push_toArray, List.append_toArray, List.nil_append, List.cons_append]
  refine (wpIn_wide (n := 20)).2 ?_
  have k1 : Blk ((w.alloc (.cells #[.int .i64 n] 3)).alloc (.cells #[.bool false] 4)) w.heap.size 3 #[.int .i64 n] := (Blk.new _ _ _).alloc _
  have k2 : Blk ((w.alloc (.cells #[.int .i64 n] 3)).alloc (.cells #[.bool false] 4)) (w.heap.size + 1) 4 #[.bool false] := Blk.newS w _ _ _
  have hW : Below w.heap.size w ((w.alloc (.cells #[.int .i64 n] 3)).alloc (.cells #[.bool false] 4)) := balloc (balloc (Below.refl _ _) _) _
  have H := Lib.hid (And.intro k1 (And.intro k2 hW))
  clear k1 k2 hW
  go_wp2_with fail
  refine (rmembers_any a HA.out _).mono ?_
  rintro e w1 ⟨v, rfl, hown, h1⟩
  obtain ⟨k1, k2, hW⟩ := H.out
  clear H
  obtain ⟨x, cap, rfl, hx⟩ := owns_slice hown
  replace hown := owns_mono hown (show w.heap.size + 2 ≤ _ by simp)
  have hef : EF a n x cap w1.heap.size w (w1.alloc (.cells #[.slice x (eb a 64).length cap] 39)) := ⟨⟨⟨⟨(k1.keep h1).alloc _, (k2.keep h1).alloc _⟩, Blk.new w1 _ _⟩, hown.alloc _⟩, balloc (bstep hW h1) _⟩
  have hgs : w.heap.size + 2 ≤ w1.heap.size := by have := h1.size; simp at this; omega
  clear k1 k2 hW hown h1 hx
  have HX := Lib.hid hef
  clear hef
  go_wp2_with fail
  refine (members_any a _).mono ?_
  rintro e V ⟨rfl, rfl⟩
  have hgl : w1.heap.size < (w1.alloc (.cells #[.slice x (eb a 64).length cap] 39)).heap.size := by simp
  have hef := HX.out
  obtain ⟨wc, hwc⟩ : ∃ wc, w1.alloc (.cells #[.slice x (eb a 64).length cap] 39) = wc := ⟨_, rfl⟩
  rw [hwc] at hef hgl ⊢
  clear hwc HX
  generalize w1.heap.size = gs at hef hgs hgl ⊢
  have kA := Blk.new wc 24 #[.int .u64 (a : Nat)]
  have hef2 := hef.alloc (.cells #[.int .u64 (a : Nat)] 24)
  have HY := Lib.hid (And.intro kA (And.intro hef2 (show gs < wc.heap.size from hgl)))
  clear kA hef hef2 hgl
  go_wp2_with fail
  obtain ⟨kA, hef, hgA⟩ := HY.out
  have kT := Blk.new (wc.alloc (.cells #[.int .u64 (a : Nat)] 24)) 3 #[.int .i64 0]
  rw [World.size_alloc] at kT
  have hef' := hef.alloc (.cells #[.int .i64 0] 3)
  have kA' := kA.alloc (.cells #[.int .i64 0] 3)
  obtain ⟨W0, hW0⟩ : ∃ W0, (wc.alloc (.cells #[.int .u64 (a : Nat)] 24)).alloc (.cells #[.int .i64 0] 3) = W0 := ⟨_, rfl⟩
  rw [hW0] at kT hef' kA' ⊢
  clear hW0 HY kA hef hnil
  have hgT : wc.heap.size < wc.heap.size + 1 := by omega
  generalize wc.heap.size + 1 = gT at kT hgT ⊢
  generalize wc.heap.size = gA at kA' hgA hgT ⊢
  have cT := cell_of_row W0 _ 0 _ _ _ kT
  have HY := Lib.hid (And.intro kA' (And.intro hef' (And.intro kT (And.intro hgs (And.intro hgA hgT)))))
  clear kA' hef' kT hgA hgT hgs
  refine wp_loop_rounds 3 ?_
  rw [rounds_succ]
  go_wp2_with fail
  obtain ⟨kA, hef, kT, hgs, hgl, hgA⟩ := HY.out
  have hef1 := hef.alloc (.cells #[.int .i64 0] 3)
  have kA1 := kA.alloc (.cells #[.int .i64 0] 3)
  have kT1 := kT.alloc (.cells #[.int .i64 0] 3)
  have kK1 := Blk.new W0 3 #[.int .i64 0]
  have hgK : gT < W0.heap.size := kT.lt
  have hAB : Abide W0.heap.size (fun (_ : Unit) X => (EF a n x cap gs w X ∧ Blk X gA 24 #[.int .u64 (a : Nat)]) ∧ Blk X gT 3 #[.int .i64 0]) := ((EF.abide hef (Nat.le_refl _)).and (Abide.blk kA.lt _ (fun _ => #[Value.int .u64 (a : Nat)]))).and (Abide.blk kT.lt _ (fun _ => #[Value.int .i64 0]))
  clear hef kA kT HY cT
  obtain ⟨V, hV⟩ : ∃ V, W0.alloc (.cells #[.int .i64 0] 3) = V := ⟨_, rfl⟩
  rw [hV] at hef1 kA1 kT1 kK1 ⊢
  clear hV
  generalize W0.heap.size = gK at kK1 hgK hAB ⊢
  have hT0 : TZ V := HT.out.below HT.out.lt hef1.2
  have HV := Lib.hid (And.intro hef1 (And.intro kA1 (And.intro kT1 (And.intro kK1 (And.intro hT0 (And.intro hAB (show w.heap.size ≤ gK by omega)))))))
  clear hef1 kA1 kT1 kK1 hT0 hAB hgl hgA hgs hgK
  refine join_rounds (G := ?G) (F := (fun D X => ((EF a n x cap gs w X ∧ Blk X gA 24 #[.int .u64 (a : Nat)]) ∧ Blk X gT 3 #[.int .i64 0]) ∧ V.heap.size ≤ D ∧ X.heap[D]? = some (.deferred (some [])))) (FR := fun D q v1 v2 v3 => { tmps := #[Value.int IntKind.u64 (a : Nat), Value.int IntKind.i64 n, undef, Value.pointer (some { block := w.heap.size, off := 0 }), Value.pointer (some { block := w.heap.size + 1, off := 0 }), Value.pointer (some { block := gs, off := 0 }), Value.func (Fn.func 34) #[] #[Value.pointer (some { block := gA, off := 0 })], Value.pointer (some { block := q, off := 0 }), Value.pointer (some { block := gK, off := 0 }), undef, Value.int IntKind.u64 (a : Nat), Value.slice x (eb a 64).length cap, Value.int IntKind.u64 (a : Nat), Value.func (Fn.func 34) #[] #[Value.pointer (some { block := gA, off := 0 })], Value.func (Fn.func 34) #[] #[Value.pointer (some { block := gA, off := 0 })], Value.bool false, Value.int IntKind.i64 0, Value.bool true, Value.int IntKind.i64 0, Value.int IntKind.i64 1, Value.func (Fn.func 34) #[] #[Value.pointer (some { block := gA, off := 0 })], undef, undef, undef, undef, undef, undef, undef, undef, undef, undef, undef, undef, undef, undef, undef, undef, undef, undef, undef, undef, undef, undef, Value.int IntKind.i64 0, Value.bool true, Value.bool true, v1, Value.slice x (eb a 64).length cap, Value.int IntKind.i64 ↑(eb a 64).length, Value.int IntKind.i64 n, v2, v3, Value.bool false, Value.bool false, Value.bool false, Value.int IntKind.i64 0, Value.bool false, Value.bool false, undef, undef, undef, undef, Value.bool false, Value.bool false, Value.int IntKind.i64 0, undef], defers := [{ target := Target.collected D, args := #[] }] }) (WX := fun X => X.alloc (.cells #[.int .i64 1] 3)) (fun (keep : Kept1 _) => ?ways) ?rest
  case ways =>
    refine (wpIn_wide (n := 20)).1 ?_
    refine wpIn_rangeB (n := 20) (by omega) (gf := 34) (lb := #[.pointer (some ⟨gA, 0, none⟩)]) rfl (enters_of Tryd.func34 (by kernel_rfl) rfl)
      (members_seqB (20 - 1) w.heap.size gA a (by omega) HA.out V HT.out.lt HV.out.2.2.2.2.1 HV.out.2.1) (Below.refl _ _) HV.out.1.2.size (fun _ => rfl)
      (fun pre X => (((EF a n x cap gs w X ∧ Blk X gA 24 #[.int .u64 (a : Nat)]) ∧ Blk X gT 3 #[.int .i64 0]) ∧ Blk X gK 3 #[.int .i64 (pre.length : Nat)]) ∧ (pre.length = 0 ∨ (pre.length : Int) < n))
      (fun c pre X => (((EF a n x cap gs w X ∧ Blk X gA 24 #[.int .u64 (a : Nat)]) ∧ Blk X gT 3 #[.int .i64 0]) ∧ Blk X gK 3 #[.int .i64 (pre.length : Nat)]) ∧ (c = .exit 2 ∧ n ≤ pre.length ∧ (pre.length = 1 ∨ (pre.length : Int) - 1 < n)))
      (((((EF.abide HV.out.1 (Nat.le_refl _)).and (Abide.blk HV.out.2.1.lt _ (fun _ => #[Value.int .u64 (a : Nat)]))).and (Abide.blk HV.out.2.2.1.lt _ (fun _ => #[Value.int .i64 0]))).and (Abide.blk HV.out.2.2.2.1.lt _ (fun pre => #[Value.int .i64 ((List.length pre : Nat) : Int)]))).and (fun _ _ _ _ hs _ _ => hs))
      (fun _ => ((((EF.abide HV.out.1 (Nat.le_refl _)).and (Abide.blk HV.out.2.1.lt _ (fun _ => #[Value.int .u64 (a : Nat)]))).and (Abide.blk HV.out.2.2.1.lt _ (fun _ => #[Value.int .i64 0]))).and (Abide.blk HV.out.2.2.2.1.lt _ (fun pre => #[Value.int .i64 ((List.length pre : Nat) : Int)]))).and (fun _ _ _ _ hs _ _ => hs))
      (fun _ _ _ => trivial) ⟨⟨⟨⟨HV.out.1, HV.out.2.1⟩, HV.out.2.2.1⟩, HV.out.2.2.2.1⟩, .inl rfl⟩
      (fun y a' _ => a' = { tmps := #[Value.int IntKind.u64 (a : Nat), Value.int IntKind.i64 n, undef, Value.pointer (some { block := w.heap.size, off := 0 }), Value.pointer (some { block := w.heap.size + 1, off := 0 }), Value.pointer (some { block := gs, off := 0 }), Value.func (Fn.func 34) #[] #[Value.pointer (some { block := gA, off := 0 })], Value.pointer (some { block := gT, off := 0 }), Value.pointer (some { block := gK, off := 0 }), Value.int IntKind.i64 (y : Nat), Value.int IntKind.u64 (a : Nat), Value.slice x (eb a 64).length cap, Value.int IntKind.u64 (a : Nat), Value.func (Fn.func 34) #[] #[Value.pointer (some { block := gA, off := 0 })], Value.func (Fn.func 34) #[] #[Value.pointer (some { block := gA, off := 0 })], Value.bool false, Value.int IntKind.i64 0, Value.bool true, undef, undef, Value.func (Fn.func 34) #[] #[Value.pointer (some { block := gA, off := 0 })], Value.int IntKind.i64 (y : Nat), undef, undef, undef, undef, undef, undef, undef, undef, undef, undef, undef, undef, undef, undef, undef, undef, undef, undef, undef, undef, undef, undef, undef, undef, undef, undef, undef, undef, undef, undef, undef, undef, undef, undef, undef, undef, undef, undef, undef, undef, undef, undef, undef, undef], defers := [] })
      (fun y a' _ _ _ _ hs _ _ => hs)
      ?assign ?body ?done ?stop
    case assign =>
      rintro l2 pre y X K _ hi hK
      have HI := Lib.hid hi
      have HK := Lib.hid hK
      clear hi hK
      gi_wp2
      exact HK.out _ _ (Kept.refl _ _) (Below.refl _ _) HI.out rfl
    case body =>
      rintro l2 pre y a' X hl2 ⟨hpre, hy1, hy2⟩ hlo ⟨⟨⟨⟨hef, kA⟩, kT⟩, kK⟩, hd⟩ rfl
      obtain ⟨hg1, hg2⟩ := eb_get a y hy2 hy1
      rw [← hpre] at hg1 hg2
      obtain ⟨g, rfl, hgx, hcx⟩ := hef.want hg1
      have cS := cell_of_row X _ 0 _ _ _ hef.1.1.2
      have cN := cell_of_row X _ 0 _ _ _ hef.1.1.1.1
      have cT := cell_of_row X _ 0 _ _ _ kT
      have cK := cell_of_row X _ 0 _ _ _ kK
      have fK := frozen_of_row X _ 0 _ _ kK
      have hw1 : IntKind.i64.wrap ((pre.length : Int) + 1) = ((pre.length + 1 : Nat) : Int) := by rw [show ((pre.length : Int) + 1) = ((pre.length + 1 : Nat) : Int) by omega]; exact IntWalk.i64_in _ (by omega)
      have hix : pre.length < (eb a 64).length := by omega
      have hnge : ¬ (eb a 64).length ≤ pre.length := by omega
      have hef2 := HV.out.2.2.2.2.2.1 () X (X.setCell ⟨gK, 0, none⟩ (.int .i64 ((pre.length : Int) + 1))) (some gK) ⟨⟨hef, kA⟩, kT⟩ (grownBy_setCell' X gK _) (fun r e => by cases e; exact Nat.le_refl _)
      have kK2 : Blk (X.setCell ⟨gK, 0, none⟩ (.int .i64 ((pre.length : Int) + 1))) gK 3 #[.int .i64 ((pre.length : Int) + 1)] := heap_setCell_same X gK 0 _ _ (.int .i64 ((pre.length : Int) + 1)) kK
      have cT2 := cell_of_row _ _ 0 _ _ _ hef2.2
      have cN2 := cell_of_row _ _ 0 _ _ _ hef2.1.1.1.1.1.1
      have cK2 := cell_of_row _ _ 0 _ _ _ kK2
      have HX1 := Lib.hid (And.intro hef2 (And.intro kK2 (And.intro hd (And.intro HV.out.2.2.2.1.lt HV.out.2.2.2.2.2.2))))
      have hl : (((pre ++ [y]).length : Nat) : Int) = (pre.length : Int) + 1 := by simp
      have HL := Lib.hid hl
      clear hl hef2 kK2 hef kA kT kK hpre hy1 hy2 hlo hg1 hg2
      by_cases hcn : n ≤ (pre.length : Int) + 1
      · have hcb : decide (n ≤ (pre.length : Int) + 1) = true := decide_eq_true hcn
        gi_wp2_with fail
        obtain ⟨h3, hk, hd, hlV, hsK⟩ := HX1.out
        refine ⟨Kept.set X (p := ⟨gK, 0, none⟩) hlV _, ⟨h3, by rw [HL.out]; exact hk⟩, rfl, by rw [HL.out]; exact hcn, ?_⟩
        rcases hd with hd | hd
        · exact .inl (by simp [List.length_eq_zero_iff.1 hd])
        · exact .inr (by rw [HL.out]; omega)
      · have hcb : decide (n ≤ (pre.length : Int) + 1) = false := decide_eq_false hcn
        gi_wp2_with fail
        obtain ⟨h3, hk, hd, hlV, hsK⟩ := HX1.out
        exact ⟨Kept.set X (p := ⟨gK, 0, none⟩) hlV _, (Below.refl _ X).setCell (p := ⟨gK, 0, none⟩) hsK _, ⟨h3, by rw [HL.out]; exact hk⟩, .inr (by rw [HL.out]; omega)⟩
    case done =>
      rintro D xs X hD rfl ⟨⟨⟨⟨hef, kA⟩, kT⟩, kK⟩, hd⟩ hDD
      have hmin := many_done _ n hd
      have cS := cell_of_row X _ 0 _ _ _ hef.1.1.2
      have cN := cell_of_row X _ 0 _ _ _ hef.1.1.1.1
      have cT := cell_of_row X _ 0 _ _ _ kT
      have cK := cell_of_row X _ 0 _ _ _ kK
      have HX1 := Lib.hid (And.intro hef (And.intro kA (And.intro kT (And.intro kK (And.intro hDD hD)))))
      have HF := Lib.hid (And.intro (And.intro (And.intro hef kA) kT) (And.intro hD hDD))
      clear hef kA kT kK hDD hD hd
      go_wp2_with fail
      all_goals exact keep.1 D X _ _ _ HF.out
    case stop =>
      rintro D c pre X hD hSp ⟨⟨⟨⟨hef, kA⟩, kT⟩, kK⟩, rfl, hn1, hn2⟩ hDD
      obtain ⟨y, hy1, hy2, hpre⟩ := hSp
      have hlN := (eb_get a y hy1 hy2).2
      have hl : pre.length = (eb a y).length + 1 := by rw [hpre]; simp
      have hmin := many_left (eb a 64).length pre.length n (by omega) (by omega) hn1 hn2
      have cS := cell_of_row X _ 0 _ _ _ hef.1.1.2
      have cN := cell_of_row X _ 0 _ _ _ hef.1.1.1.1
      have cT := cell_of_row X _ 0 _ _ _ kT
      have cK := cell_of_row X _ 0 _ _ _ kK
      have HX1 := Lib.hid (And.intro hef (And.intro kA (And.intro kT (And.intro kK (And.intro hDD hD)))))
      have HF := Lib.hid (And.intro (And.intro (And.intro hef kA) kT) (And.intro hD hDD))
      clear hef kA kT kK hDD hD hn1 hn2 hlN hl hpre hy1 hy2
      refine (wpIn_wide (n := 20)).2 ?_
      go_wp2_with fail
      all_goals exact keep.1 D X _ _ _ HF.out

  case rest =>
    rintro D X v1 v2 v3 ⟨⟨⟨hef, kA⟩, kT⟩, hD, hDD⟩
    have hDl : D < X.heap.size := (Array.getElem?_eq_some_iff.1 hDD).1
    have hDD2 : (X.alloc (.cells #[.int .i64 1] 3)).heap[D]? = some (.deferred (some [])) := (Below.heap_alloc X _ D hDl).trans hDD
    have kT2 := Blk.new X 3 #[.int .i64 1]
    have hef2 := hef.alloc (.cells #[.int .i64 1] 3)
    have kA2 := kA.alloc (.cells #[.int .i64 1] 3)
    have hBX := hef.2
    have hwV : w.heap.size + 1 < V.heap.size := HV.out.1.1.1.1.2.lt
    have hwD : w.heap.size + 1 < D := Nat.lt_of_lt_of_le hwV hD
    have HWD := Lib.hid hwD
    clear hef kA kT hDD HV hwV hwD hD
    obtain ⟨W2, hW2⟩ : ∃ W2, X.alloc (.cells #[.int .i64 1] 3) = W2 := ⟨_, rfl⟩
    dsimp only
    rw [hW2] at hDD2 kT2 hef2 kA2 ⊢
    clear hW2
    have hgX : w.heap.size ≤ X.heap.size := hBX.size
    generalize X.heap.size = gT at kT2 hDl hgX ⊢
    clear hBX
    have cT := cell_of_row W2 _ 0 _ _ _ kT2
    have HY := Lib.hid (And.intro hDD2 (And.intro kT2 (And.intro hef2 (And.intro kA2 (And.intro hDl hgX)))))
    clear hDD2 kT2 hef2 kA2 hDl hgX
    rw [rounds_succ]
    go_wp2_with fail
    obtain ⟨hDD, kT, hef, kA, hDl, hgX⟩ := HY.out
    have hgK : gT < W2.heap.size := kT.lt
    have hlD : D < W2.heap.size := (Array.getElem?_eq_some_iff.1 hDD).1
    have hAB : Abide W2.heap.size (fun (_ : Unit) X => ((EF a n x cap gs w X ∧ Blk X gA 24 #[.int .u64 (a : Nat)]) ∧ Blk X gT 3 #[.int .i64 1]) ∧ X.heap[D]? = some (.deferred (some []))) := (((EF.abide hef (Nat.le_refl _)).and (Abide.blk kA.lt _ (fun _ => #[Value.int .u64 (a : Nat)]))).and (Abide.blk kT.lt _ (fun _ => #[Value.int .i64 1]))).and (Abide.heap hlD (fun _ => .deferred (some [])))
    have hef1 := hef.alloc (.cells #[.int .i64 0] 3)
    have kA1 := kA.alloc (.cells #[.int .i64 0] 3)
    have kT1 := kT.alloc (.cells #[.int .i64 0] 3)
    have hD1 : (W2.alloc (.cells #[.int .i64 0] 3)).heap[D]? = some (.deferred (some [])) := (Below.heap_alloc W2 _ D hlD).trans hDD
    have kK1 := Blk.new W2 3 #[.int .i64 0]
    clear hef kA kT HY cT hDD
    obtain ⟨V2, hV⟩ : ∃ V2, W2.alloc (.cells #[.int .i64 0] 3) = V2 := ⟨_, rfl⟩
    rw [hV] at hef1 kA1 kT1 kK1 hD1 ⊢
    clear hV
    generalize W2.heap.size = gK2 at kK1 hgK hAB hlD ⊢
    have hT0 : TZ V2 := HT.out.below HT.out.lt hef1.2
    have hlV2 : D < V2.heap.size := (Array.getElem?_eq_some_iff.1 hD1).1
    have hwK : w.heap.size ≤ gK2 := by omega
    refine (wpIn_wide (n := 20)).1 ?_
    refine wpIn_rangeB (n := 20) (by omega) (gf := 34) (lb := #[.pointer (some ⟨gA, 0, none⟩)]) rfl (enters_of Tryd.func34 (by kernel_rfl) rfl)
      (members_seqB (20 - 1) w.heap.size gA a (by omega) HA.out V2 HT.out.lt hT0 kA1) (Below.refl _ _) hef1.2.size (fun _ => rfl)
      (fun pre X => (((EF a n x cap gs w X ∧ Blk X gA 24 #[.int .u64 (a : Nat)]) ∧ Blk X gT 3 #[.int .i64 1]) ∧ X.heap[D]? = some (.deferred (some []))) ∧ Blk X gK2 3 #[.int .i64 (pre.length : Nat)])
      (fun _ _ _ => False)
      (((((EF.abide hef1 (Nat.le_refl _)).and (Abide.blk kA1.lt _ (fun _ => #[Value.int .u64 (a : Nat)]))).and (Abide.blk kT1.lt _ (fun _ => #[Value.int .i64 1]))).and (Abide.heap hlV2 (fun _ => .deferred (some [])))).and (Abide.blk kK1.lt _ (fun pre => #[Value.int .i64 ((List.length pre : Nat) : Int)])))
      (fun _ _ _ _ _ hs _ _ => hs)
      (fun _ _ _ => trivial) ⟨⟨⟨⟨hef1, kA1⟩, kT1⟩, hD1⟩, kK1⟩
      (fun y a' _ => a' = { tmps := #[Value.int IntKind.u64 (a : Nat), Value.int IntKind.i64 n, undef, Value.pointer (some { block := w.heap.size, off := 0 }), Value.pointer (some { block := w.heap.size + 1, off := 0 }), Value.pointer (some { block := gs, off := 0 }), Value.func (Fn.func 34) #[] #[Value.pointer (some { block := gA, off := 0 })], Value.pointer (some { block := gT, off := 0 }), Value.pointer (some { block := gK2, off := 0 }), Value.int IntKind.i64 (y : Nat), Value.int IntKind.u64 (a : Nat), Value.slice x (eb a 64).length cap, Value.int IntKind.u64 (a : Nat), Value.func (Fn.func 34) #[] #[Value.pointer (some { block := gA, off := 0 })], Value.func (Fn.func 34) #[] #[Value.pointer (some { block := gA, off := 0 })], Value.bool false, Value.int IntKind.i64 1, Value.bool true, Value.int IntKind.i64 0, Value.int IntKind.i64 1, Value.func (Fn.func 34) #[] #[Value.pointer (some { block := gA, off := 0 })], Value.int IntKind.i64 (y : Nat), undef, undef, undef, undef, undef, undef, undef, undef, undef, undef, undef, undef, undef, undef, undef, undef, undef, undef, undef, undef, undef, Value.int IntKind.i64 0, Value.bool true, Value.bool true, v1, Value.slice x (eb a 64).length cap, Value.int IntKind.i64 ↑(eb a 64).length, Value.int IntKind.i64 n, v2, v3, Value.bool false, Value.bool false, Value.bool false, Value.int IntKind.i64 0, Value.bool false, Value.bool false, undef, undef, undef, undef, Value.bool false, Value.bool false, Value.int IntKind.i64 0, undef], defers := [] })
      (fun y a' _ _ _ _ hs _ _ => hs)
      ?assign ?body ?done ?stop
    case stop =>
      rintro D2 c pre X2 hD2 _ h _
      exact h.elim
    case assign =>
      rintro l2 pre y X K _ hi hK
      have HI := Lib.hid hi
      have HK := Lib.hid hK
      clear hi hK hef1 kA1 kT1 kK1 hT0 hAB hgK hlD hD1
      gi_wp2
      exact HK.out _ _ (Kept.refl _ _) (Below.refl _ _) HI.out rfl
    case body =>
      rintro l2 pre y a' X hl2 ⟨hpre, hy1, hy2⟩ hlo ⟨⟨⟨⟨hef, kA⟩, kT⟩, hDD⟩, kK⟩ rfl
      obtain ⟨hg1, hg2⟩ := eb_get a y hy2 hy1
      rw [← hpre] at hg1 hg2
      obtain ⟨g, rfl, hgx, hcx⟩ := hef.want hg1
      have cS := cell_of_row X _ 0 _ _ _ hef.1.1.2
      have cT := cell_of_row X _ 0 _ _ _ kT
      have cK := cell_of_row X _ 0 _ _ _ kK
      have fK := frozen_of_row X _ 0 _ _ kK
      have hw1 : IntKind.i64.wrap ((pre.length : Int) + 1) = ((pre.length + 1 : Nat) : Int) := by rw [show ((pre.length : Int) + 1) = ((pre.length + 1 : Nat) : Int) by omega]; exact IntWalk.i64_in _ (by omega)
      have hix : pre.length < (eb a 64).length := by omega
      have hnge : ¬ (eb a 64).length ≤ pre.length := by omega
      have hef2 := hAB () X (X.setCell ⟨gK2, 0, none⟩ (.int .i64 ((pre.length : Int) + 1))) (some gK2) ⟨⟨⟨hef, kA⟩, kT⟩, hDD⟩ (grownBy_setCell' X gK2 _) (fun r e => by cases e; exact Nat.le_refl _)
      have kK2 : Blk (X.setCell ⟨gK2, 0, none⟩ (.int .i64 ((pre.length : Int) + 1))) gK2 3 #[.int .i64 ((pre.length : Int) + 1)] := heap_setCell_same X gK2 0 _ _ (.int .i64 ((pre.length : Int) + 1)) kK
      have cT2 := cell_of_row _ _ 0 _ _ _ hef2.1.2
      have cK2 := cell_of_row _ _ 0 _ _ _ kK2
      have hl : (((pre ++ [y]).length : Nat) : Int) = (pre.length : Int) + 1 := by simp
      have HL := Lib.hid hl
      have HX1 := Lib.hid (And.intro hef2 (And.intro kK2 (And.intro kK1.lt hwK)))
      clear hl hef2 kK2 hef kA kT kK hDD hef1 kA1 kT1 kK1 hT0 hAB hgK hpre hy1 hy2 hlo hg1 hg2 hlD hD1 hlV2 hwK
      gi_wp2_with fail
      obtain ⟨h3, hk, hlV, hsK⟩ := HX1.out
      exact ⟨Kept.set X (p := ⟨gK2, 0, none⟩) hlV _, (Below.refl _ X).setCell (p := ⟨gK2, 0, none⟩) hsK _, h3, by rw [HL.out]; exact hk⟩
    case done =>
      rintro D2 xs X2 hD2 rfl ⟨⟨⟨⟨hef, kA⟩, kT⟩, hDD⟩, kK⟩ hDD2
      have cS := cell_of_row X2 _ 0 _ _ _ hef.1.1.2
      have cT := cell_of_row X2 _ 0 _ _ _ kT
      have cK := cell_of_row X2 _ 0 _ _ _ kK
      have hne : D < D2 := Nat.lt_of_lt_of_le hlV2 hD2
      have HZ := Lib.hid (And.intro hef (And.intro hDD (And.intro hDD2 hne)))
      clear hef kA kT kK hDD hDD2 hef1 kA1 kT1 kK1 hT0 hAB hgK hlD hD1 hlV2 hwK hD2 hne
      go_wp2_with fail
      obtain ⟨hef, hDD, hDD2, hne⟩ := HZ.out
      have kT2 := Blk.new X2 3 #[.int .i64 2]
      have hef2 := hef.alloc (.cells #[.int .i64 2] 3)
      have hD1 := (Below.heap_alloc X2 (.cells #[.int .i64 2] 3) D (Array.getElem?_eq_some_iff.1 hDD).1).trans hDD
      have hD2 := (Below.heap_alloc X2 (.cells #[.int .i64 2] 3) D2 (Array.getElem?_eq_some_iff.1 hDD2).1).trans hDD2
      clear hef hDD hDD2 cS cT cK
      obtain ⟨X3, hX3⟩ : ∃ X3, X2.alloc (.cells #[.int .i64 2] 3) = X3 := ⟨_, rfl⟩
      rw [hX3] at kT2 hef2 hD1 hD2 ⊢
      clear hX3
      generalize X2.heap.size = gU at kT2 ⊢
      have cT := cell_of_row X3 _ 0 _ _ _ kT2
      have hT3 : TZ X3 := HT.out.below HT.out.lt hef2.2
      have HE := Lib.hid (And.intro hef2 (And.intro hD1 (And.intro hD2 hne)))
      have HT3 := Lib.hid hT3
      clear kT2 hef2 hD1 hD2 hne hT3 HZ
      rw [rounds_succ]
      go_wp2_with fail
      refine (works_any _ HT3.out).mono ?_
      rintro e X4 ⟨rfl, h4⟩
      obtain ⟨hef, hD1, hD2, hne⟩ := HE.out
      have hef4 := hef.new h4
      have hE1 := (h4.block D (Array.getElem?_eq_some_iff.1 hD1).1).trans hD1
      have hE2 := (h4.block D2 (Array.getElem?_eq_some_iff.1 hD2).1).trans hD2
      have cR := cell_of_row X4 _ 0 _ _ _ hef4.1.1.1.2
      have fR := frozen_of_row X4 _ 0 _ _ hef4.1.1.1.2
      have HG := Lib.hid (And.intro hef4 (And.intro hE1 (And.intro hE2 hne)))
      clear hef hD1 hD2 hne hef4 hE1 hE2 HE h4
      go_wp2
      obtain ⟨hef, hD9, hE9, hne⟩ := HG.out
      have hwD := HWD.out
      have bR9 := hef.1.1.1.2
      have hDY : (X4.setCell ⟨w.heap.size + 1, 0, none⟩ (.bool true)).heap[D]? = some (.deferred (some [])) := (Below.heap_setCell X4 ⟨w.heap.size + 1, 0, none⟩ _ D (by simp; omega)).trans hD9
      have hEY : (X4.setCell ⟨w.heap.size + 1, 0, none⟩ (.bool true)).heap[D2]? = some (.deferred (some [])) := (Below.heap_setCell X4 ⟨w.heap.size + 1, 0, none⟩ _ D2 (by simp; omega)).trans hE9
      have bY : Blk (X4.setCell ⟨w.heap.size + 1, 0, none⟩ (.bool true)) (w.heap.size + 1) 4 #[.bool true] := heap_setCell_same X4 _ 0 _ _ _ bR9
      have hBY : Below w.heap.size w (X4.setCell ⟨w.heap.size + 1, 0, none⟩ (.bool true)) := hef.2.setCell (p := ⟨w.heap.size + 1, 0, none⟩) (by simp) _
      obtain ⟨Y, hY⟩ : ∃ Y, X4.setCell ⟨w.heap.size + 1, 0, none⟩ (.bool true) = Y := ⟨_, rfl⟩
      rw [hY] at hDY hEY bY hBY ⊢
      clear hY hD9 hE9 bR9 cR fR hef HG
      have hD2' : (Y.putObj D2 (.deferred none)).heap[D]? = some (.deferred (some [])) := (World.putObj_heap_other (by omega)).trans hDY
      have bY2 : Blk (Y.putObj D2 (.deferred none)) (w.heap.size + 1) 4 #[.bool true] := bY.kept (grownBy_putObj' Y D2 _) (by intro e; cases e; omega)
      have bY3 : Blk ((Y.putObj D2 (.deferred none)).putObj D (.deferred none)) (w.heap.size + 1) 4 #[.bool true] := bY2.kept (grownBy_putObj' _ D _) (by intro e; cases e; omega)
      have q0 := cell_of_row _ _ 0 _ _ _ bY3
      refine ⟨by simp, .inl ⟨_, _, rfl, run_takeDeferred hEY, ?_⟩⟩
      refine ⟨by simp, .inl ⟨_, _, rfl, run_takeDeferred hD2', ?_⟩⟩
      exact ⟨.bool true, by simp [results, Tryd.results5, go_sem, q0], rfl, (hBY.trans (below_put Y _ (by omega))).trans (below_put _ _ (by omega))⟩
end Go.Proofs.YtmcfccbaogjblaaDoor
