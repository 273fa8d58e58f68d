/- code: opAt. -/
import Derived.Test.YtcdmaapjcckbmaaDoorXo
namespace Go.Proofs.YtcdmaapjcckbmaaDoor
open Go.RowKit Go.Shelf

/-- opAt: what stands between two rounds, the results being r and z. -/
def OAI (B b : Nat) (sl : Value) (l : List Nat) (place : Int) (r : Nat) (z : Bool) (w : World) (X : World) : Prop :=
  (Blk X b 3 #[.int .i64 place] ∧ Blk X (b + 1) 5 #[.int .u8 (r : Nat)] ∧ Blk X (b + 2) 4 #[.bool z]) ∧ (Blk X (b + 3) 32 #[sl] ∧ Bto B X sl l) ∧ Below b w X
theorem OAI.kept {B b : Nat} {sl : Value} {l : List Nat} {place : Int} {r : Nat} {z : Bool} {w X Y : World} {row : Option Nat} (hB : B ≤ b) (hb : b ≤ w.heap.size) (h : OAI B b sl l place r z w X) (hg : X.grownBy Y row) (hr : ∀ k, row = some k → b + 3 < k) : OAI B b sl l place r z w Y := by
  obtain ⟨⟨h1, h2, h3⟩, ⟨h4, h5⟩, h6⟩ := h
  refine ⟨⟨h1.kept hg (fun e => by have := hr _ e.symm; omega), h2.kept hg (fun e => by have := hr _ e.symm; omega), h3.kept hg (fun e => by have := hr _ e.symm; omega)⟩, ⟨h4.kept hg (fun e => by have := hr _ e.symm; omega), h5.kept hg.size (fun i hi hx => hg.block i hx (fun e => by have := hr _ e.symm; omega))⟩, h6.grown hg (Nat.le_trans hb h6.size) (fun r e => by have := hr _ e; omega)⟩
theorem OAI.stay {B b : Nat} {sl : Value} {l : List Nat} {place : Int} {r : Nat} {z : Bool} {w : World} (hB : B ≤ b) (hb : b ≤ w.heap.size) (p : List Nat → Prop) : StayM (fun k => noM k ∨ k = b + 4 ∨ k = b + 4 + 1) (fun pre X => p pre ∧ OAI B b sl l place r z w X) := fun pre X Y row h hg hr =>
  ⟨h.1, OAI.kept hB hb h.2 hg (fun k e => by rcases hr k e with h | h | h; exact h.elim; omega; omega)⟩
theorem OAI.put {B b : Nat} {sl : Value} {l : List Nat} {place : Int} {r : Nat} {z : Bool} {w X : World} (hB : B ≤ b) (hb : b ≤ w.heap.size) (h : OAI B b sl l place r z w X) (r2 : Nat) (z2 : Bool) :
    OAI B b sl l place r2 z2 w ((X.setCell ⟨b + 1, 0, none⟩ (.int .u8 (r2 : Nat))).setCell ⟨b + 2, 0, none⟩ (.bool z2)) ∧ KeptM (fun k => noM k ∨ k = b + 4 ∨ k = b + 4 + 1) X ((X.setCell ⟨b + 1, 0, none⟩ (.int .u8 (r2 : Nat))).setCell ⟨b + 2, 0, none⟩ (.bool z2)) := by
  obtain ⟨⟨h1, h2, h3⟩, ⟨h4, h5⟩, h6⟩ := h
  have hS := grown_set' (grown_refl X (b + 1)) 0 (.int .u8 (r2 : Nat))
  have hT := grown_set' (grown_refl (X.setCell ⟨b + 1, 0, none⟩ (.int .u8 (r2 : Nat))) (b + 2)) 0 (.bool z2)
  have hkeep : ∀ k, k ≠ b + 1 → k ≠ b + 2 → k < X.heap.size → ((X.setCell ⟨b + 1, 0, none⟩ (.int .u8 (r2 : Nat))).setCell ⟨b + 2, 0, none⟩ (.bool z2)).heap[k]? = X.heap[k]? := fun k a1 a2 hx =>
    (hT.block k (Nat.lt_of_lt_of_le hx hS.size) (fun e => a2 (Option.some.inj e))).trans (hS.block k hx (fun e => a1 (Option.some.inj e)))
  have hsz := Nat.le_trans hS.size hT.size
  refine ⟨⟨⟨(hkeep b (by omega) (by omega) h1.lt).trans h1, ?_, heap_setCell_same _ _ 0 _ _ (.bool z2) (h3.kept hS (fun e => by injection e with e; omega))⟩, ⟨(hkeep _ (by omega) (by omega) h4.lt).trans h4, h5.kept hsz (fun k hk hx => hkeep k (by omega) (by omega) hx)⟩, ?_⟩, hsz, fun k hk hx => ?_⟩
  · exact Blk.kept (show Blk _ (b + 1) 5 #[.int .u8 (r2 : Nat)] from heap_setCell_same X _ 0 _ _ (.int .u8 (r2 : Nat)) h2) hT (fun e => by injection e with e; omega)
  · exact h6.trans ⟨hT.os.trans hS.os, hT.tape.trans hS.tape, hT.output.trans hS.output, hsz, fun k hk => hkeep k (by omega) (by omega) (by have := h6.size; omega)⟩
  · rcases hk with h | h | h
    · exact h.elim
    · exact hkeep k (by omega) (by omega) hx
    · exact hkeep k (by omega) (by omega) hx
attribute [local go_sem] Oper.semAt_some
set_option maxRecDepth 100000 in
set_option maxHeartbeats 4000000 in
theorem opAt_hit (B : Nat) (v : Value) (l : List Nat) (hl : l.length ≤ 1000) (k : Nat) (place : Int) (hk : k < opsN l) (hp : place = (pos l k : Nat)) (w : World) (hB : B ≤ w.heap.size) (hv : Bto B w v l) : Calls Tryd.prog 41 #[v, .int .i64 place] w fun e w' => e = .returned (.tuple #[.int .u8 (opB l k : Nat), .bool true]) ∧ Below w.heap.size w w' := by
  obtain ⟨x0, c0, rfl⟩ : ∃ x0 c0, v = .slice x0 l.length c0 := by obtain ⟨_, x, c, h, _⟩ := hv; exact ⟨x, c, h⟩
  have HV := Lib.hid hv
  have HL := Lib.hid (And.intro hl hB)
  obtain ⟨n, hn⟩ : ∃ n, l.length = n := ⟨_, rfl⟩
  have HN := Lib.hid hn
  rw [hn] at HV ⊢
  clear hv hl hB hn
  have HK := Lib.hid (And.intro hk hp)
  clear hk hp
  refine (callsIn_wide (n := 20)).1 ?_
  refine callsIn_of_wp_marks Tryd.func41 rfl trivial ?_ rfl
  simp only [Tryd.ntmps41, List.size_toArray, List.length_cons, List.length_nil, Nat.reduceAdd, Nat.reduceSub, Array.replicate_succ, Array.replicate_zero, List.push_toArray, List.append_toArray, List.nil_append, List.cons_append]
  refine (wpIn_wide (n := 20)).2 ?_
  go_wp2_with fail
  refine wp_scope_straight ?_
  go_wp2_with fail
  refine wp_label ?_
  go_wp2_with (first | (go_at_call 38; refine (ops_any _ _ _ _).mono ?_; rintro e w1 ⟨rfl, rfl⟩) | fail)
  have hI0 : OAI B w.heap.size (.slice x0 n c0) l place 0 false w ((((w.alloc (.cells #[.int .i64 place] 3)).alloc (.cells #[.int .u8 0] 5)).alloc (.cells #[.bool false] 4)).alloc (.cells #[.slice x0 n c0] 32)) := by
    have h1 := (((Blk.new w 3 #[.int .i64 place]).alloc (.cells #[.int .u8 0] 5)).alloc (.cells #[.bool false] 4)).alloc (.cells #[.slice x0 n c0] 32)
    have h2 := ((Blk.newS w (.cells #[.int .i64 place] 3) 5 #[.int .u8 0]).alloc (.cells #[.bool false] 4)).alloc (.cells #[.slice x0 n c0] 32)
    have h3 := (Blk.newS (w.alloc (.cells #[.int .i64 place] 3)) (.cells #[.int .u8 0] 5) 4 #[.bool false]).alloc (.cells #[.slice x0 n c0] 32)
    have h4 := Blk.newS ((w.alloc (.cells #[.int .i64 place] 3)).alloc (.cells #[.int .u8 0] 5)) (.cells #[.bool false] 4) 32 #[.slice x0 n c0]
    have hW := balloc (balloc (balloc (balloc (Below.refl w.heap.size w) (.cells #[.int .i64 place] 3)) (.cells #[.int .u8 0] 5)) (.cells #[.bool false] 4)) (.cells #[.slice x0 n c0] 32)
    simp only [World.size_alloc, Nat.add_assoc, Nat.reduceAdd] at h1 h2 h3 h4
    exact ⟨⟨h1, h2, h3⟩, ⟨h4, HV.out.new hW⟩, hW⟩
  have hsz : ((((w.alloc (.cells #[.int .i64 place] 3)).alloc (.cells #[.int .u8 0] 5)).alloc (.cells #[.bool false] 4)).alloc (.cells #[.slice x0 n c0] 32)).heap.size = w.heap.size + 4 := by simp
  obtain ⟨W0, hW0⟩ : ∃ W0, ((((w.alloc (.cells #[.int .i64 place] 3)).alloc (.cells #[.int .u8 0] 5)).alloc (.cells #[.bool false] 4)).alloc (.cells #[.slice x0 n c0] 32)) = W0 := ⟨_, rfl⟩
  rw [hW0] at hI0 hsz ⊢
  clear hW0
  have HSZ := Lib.hid hsz
  have HI0 := Lib.hid hI0
  refine (wpIn_wide (n := 20)).1 ?_
  refine wpIn_rangeV (n := 20) (by omega) (gf := 64) (lb := #[.pointer (some ⟨w.heap.size + 3, 0, none⟩)]) rfl enters_ops
    (ops_seq (20 - 1) (by omega) (w.heap.size + 3) B w.heap.size (.slice x0 n c0) l (by have := HL.out; omega) W0) (Below.refl _ _) hI0.2.2.size (fun k h => h.elim) (fun _ => rfl)
    (fun pre X => (pre.length ≤ k) ∧ OAI B w.heap.size (.slice x0 n c0) l place 0 false w X) (fun c pre X => (c = .ret) ∧ OAI B w.heap.size (.slice x0 n c0) l place (opB l k) true w X) (by rw [hsz]; exact OAI.stay HL.out.2 (Nat.le_refl _) (fun pre => pre.length ≤ k)) (fun c => by rw [hsz]; exact OAI.stay HL.out.2 (Nat.le_refl _) (fun _ => c = .ret)) (fun pre X h => h.2.2.1) ⟨by simp, hI0⟩
    (fun x a' _ => a' = { tmps := #[.slice x0 n c0, .int .i64 place, undef, .pointer (some ⟨w.heap.size, 0, none⟩), .pointer (some ⟨w.heap.size + 1, 0, none⟩), .pointer (some ⟨w.heap.size + 2, 0, none⟩), .int .i64 (pos l x : Nat), .int .u8 (opB l x : Nat), .slice x0 n c0, .func (.func 64) #[] #[.pointer (some ⟨w.heap.size + 3, 0, none⟩)], .int .i64 (pos l x : Nat), .int .u8 (opB l x : Nat), undef, undef, undef, undef, undef, undef, undef, undef, undef], defers := [] })
    (fun x a' _ _ _ _ hs _ _ => hs)
    ?assign ?body ?done ?stop
  case assign =>
    rintro l2 pre x X K _ _ hi hK
    gi_wp2_with fail
    exact hK _ _ (KeptM.refl _ _) (Below.refl _ _) hi rfl
  case stop =>
    rintro D c pre X hD _ ⟨rfl, hi⟩ hK
    gi_wp2_with fail
    have hDs : D = w.heap.size + 4 := by have := HSZ.out; omega
    have hgD : X.grownBy (X.putObj D (.deferred none)) (some D) := grownBy_putObj' X D _
    have hE := OAI.kept HL.out.2 (Nat.le_refl _) hi hgD (fun k e => by cases e; omega)
    have k1 := cell_of_row _ _ 0 _ _ _ hE.1.2.1
    have k2 := cell_of_row _ _ 0 _ _ _ hE.1.2.2
    have k3 : (X.putObj D (.deferred none)).cell? ⟨w.heap.size + 1 + 1, 0, none⟩ = _ := k2
    have HE := Lib.hid hE.2.2
    clear hE hgD
    simp only [Exit.noGoto]
    refine ⟨by simp, .inl ⟨_, _, rfl, run_takeDeferred hK, ?_⟩⟩
    exact ⟨_, by simp [results, Tryd.results41, go_sem, k1, k3], rfl, HE.out⟩
  case done =>
    rintro D xs X hD rfl hi hK
    exfalso
    have := hi.1
    rw [List.length_range] at this
    have := HK.out.1
    omega
  case body =>
    rintro l2 pre x a' X hl2 ⟨hpre, hx⟩ hlo ⟨hpk, hi⟩ rfl
    have hplen : pre.length = x := by rw [hpre, List.length_range]
    have c0' := cell_of_row _ _ 0 _ _ _ hi.1.1
    have c1 := cell_of_row _ _ 0 _ _ _ hi.1.2.1
    have f1 := frozen_of_row _ _ 0 _ _ hi.1.2.1
    have c2 := cell_of_row _ _ 0 _ _ _ hi.1.2.2
    have f2 := frozen_of_row _ _ 0 _ _ hi.1.2.2
    have HI := Lib.hid hi
    have HP := Lib.hid (And.intro hplen (And.intro hpk hx))
    clear hi hplen hpk hx hpre hlo hI0 hsz
    by_cases e : x = k
    · subst e
      have hq : ((pos l x : Int) == place) = true := by rw [HK.out.2]; exact beq_self_eq_true _
      obtain ⟨e1, e2⟩ := OAI.put HL.out.2 (Nat.le_refl _) HI.out (opB l x) true
      have HE := Lib.hid (And.intro e1 e2)
      clear e1 e2
      gi_wp2_with fail
      exact ⟨by rw [HSZ.out]; exact HE.out.2, rfl, HE.out.1⟩
    · have hlt : pos l x < pos l k := pos_mono l (by have := HP.out; omega)
      have hq : ((pos l x : Int) == place) = false := by rw [HK.out.2, beq_eq_false_iff_ne]; omega
      have hg : ¬ place < (pos l x : Int) := by rw [HK.out.2]; omega
      clear hlt
      gi_wp2_with fail
      exact ⟨KeptM.refl _ _, Below.refl _ _, by rw [List.length_append, List.length_singleton]; have := HP.out; omega, HI.out⟩
set_option maxRecDepth 100000 in
set_option maxHeartbeats 4000000 in
theorem opAt_miss (B : Nat) (v : Value) (l : List Nat) (hl : l.length ≤ 1000) (place : Int) (hk : ∀ k, k < opsN l → (pos l k : Int) ≠ place) (w : World) (hB : B ≤ w.heap.size) (hv : Bto B w v l) : Calls Tryd.prog 41 #[v, .int .i64 place] w fun e w' => e = .returned (.tuple #[.int .u8 0, .bool false]) ∧ Below w.heap.size w w' := by
  obtain ⟨x0, c0, rfl⟩ : ∃ x0 c0, v = .slice x0 l.length c0 := by obtain ⟨_, x, c, h, _⟩ := hv; exact ⟨x, c, h⟩
  have HV := Lib.hid hv
  have HL := Lib.hid (And.intro hl hB)
  obtain ⟨n, hn⟩ : ∃ n, l.length = n := ⟨_, rfl⟩
  have HN := Lib.hid hn
  rw [hn] at HV ⊢
  clear hv hl hB hn
  have HK := Lib.hid hk
  clear hk
  refine (callsIn_wide (n := 20)).1 ?_
  refine callsIn_of_wp_marks Tryd.func41 rfl trivial ?_ rfl
  simp only [Tryd.ntmps41, List.size_toArray, List.length_cons, List.length_nil, Nat.reduceAdd, Nat.reduceSub, Array.replicate_succ, Array.replicate_zero, List.push_toArray, List.append_toArray, List.nil_append, List.cons_append]
  refine (wpIn_wide (n := 20)).2 ?_
  go_wp2_with fail
  refine wp_scope_straight ?_
  go_wp2_with fail
  refine wp_label ?_
  go_wp2_with (first | (go_at_call 38; refine (ops_any _ _ _ _).mono ?_; rintro e w1 ⟨rfl, rfl⟩) | fail)
  have hI0 : OAI B w.heap.size (.slice x0 n c0) l place 0 false w ((((w.alloc (.cells #[.int .i64 place] 3)).alloc (.cells #[.int .u8 0] 5)).alloc (.cells #[.bool false] 4)).alloc (.cells #[.slice x0 n c0] 32)) := by
    have h1 := (((Blk.new w 3 #[.int .i64 place]).alloc (.cells #[.int .u8 0] 5)).alloc (.cells #[.bool false] 4)).alloc (.cells #[.slice x0 n c0] 32)
    have h2 := ((Blk.newS w (.cells #[.int .i64 place] 3) 5 #[.int .u8 0]).alloc (.cells #[.bool false] 4)).alloc (.cells #[.slice x0 n c0] 32)
    have h3 := (Blk.newS (w.alloc (.cells #[.int .i64 place] 3)) (.cells #[.int .u8 0] 5) 4 #[.bool false]).alloc (.cells #[.slice x0 n c0] 32)
    have h4 := Blk.newS ((w.alloc (.cells #[.int .i64 place] 3)).alloc (.cells #[.int .u8 0] 5)) (.cells #[.bool false] 4) 32 #[.slice x0 n c0]
    have hW := balloc (balloc (balloc (balloc (Below.refl w.heap.size w) (.cells #[.int .i64 place] 3)) (.cells #[.int .u8 0] 5)) (.cells #[.bool false] 4)) (.cells #[.slice x0 n c0] 32)
    simp only [World.size_alloc, Nat.add_assoc, Nat.reduceAdd] at h1 h2 h3 h4
    exact ⟨⟨h1, h2, h3⟩, ⟨h4, HV.out.new hW⟩, hW⟩
  have hsz : ((((w.alloc (.cells #[.int .i64 place] 3)).alloc (.cells #[.int .u8 0] 5)).alloc (.cells #[.bool false] 4)).alloc (.cells #[.slice x0 n c0] 32)).heap.size = w.heap.size + 4 := by simp
  obtain ⟨W0, hW0⟩ : ∃ W0, ((((w.alloc (.cells #[.int .i64 place] 3)).alloc (.cells #[.int .u8 0] 5)).alloc (.cells #[.bool false] 4)).alloc (.cells #[.slice x0 n c0] 32)) = W0 := ⟨_, rfl⟩
  rw [hW0] at hI0 hsz ⊢
  clear hW0
  have HSZ := Lib.hid hsz
  have HI0 := Lib.hid hI0
  refine (wpIn_wide (n := 20)).1 ?_
  refine wpIn_rangeV (n := 20) (by omega) (gf := 64) (lb := #[.pointer (some ⟨w.heap.size + 3, 0, none⟩)]) rfl enters_ops
    (ops_seq (20 - 1) (by omega) (w.heap.size + 3) B w.heap.size (.slice x0 n c0) l (by have := HL.out; omega) W0) (Below.refl _ _) hI0.2.2.size (fun k h => h.elim) (fun _ => rfl)
    (fun pre X => (True) ∧ OAI B w.heap.size (.slice x0 n c0) l place 0 false w X) (fun c pre X => (c = .exit 0) ∧ OAI B w.heap.size (.slice x0 n c0) l place 0 false w X) (by rw [hsz]; exact OAI.stay HL.out.2 (Nat.le_refl _) (fun pre => True)) (fun c => by rw [hsz]; exact OAI.stay HL.out.2 (Nat.le_refl _) (fun _ => c = .exit 0)) (fun pre X h => h.2.2.1) ⟨by simp, hI0⟩
    (fun x a' _ => a' = { tmps := #[.slice x0 n c0, .int .i64 place, undef, .pointer (some ⟨w.heap.size, 0, none⟩), .pointer (some ⟨w.heap.size + 1, 0, none⟩), .pointer (some ⟨w.heap.size + 2, 0, none⟩), .int .i64 (pos l x : Nat), .int .u8 (opB l x : Nat), .slice x0 n c0, .func (.func 64) #[] #[.pointer (some ⟨w.heap.size + 3, 0, none⟩)], .int .i64 (pos l x : Nat), .int .u8 (opB l x : Nat), undef, undef, undef, undef, undef, undef, undef, undef, undef], defers := [] })
    (fun x a' _ _ _ _ hs _ _ => hs)
    ?assign ?body ?done ?stop
  case assign =>
    rintro l2 pre x X K _ _ hi hK
    gi_wp2_with fail
    exact hK _ _ (KeptM.refl _ _) (Below.refl _ _) hi rfl
  case stop =>
    rintro D c pre X hD _ ⟨rfl, hi⟩ hK
    have c1 := cell_of_row _ _ 0 _ _ _ hi.1.2.1
    have f1 := frozen_of_row _ _ 0 _ _ hi.1.2.1
    have c2 : X.cell? ⟨w.heap.size + 1 + 1, 0, none⟩ = _ := cell_of_row _ _ 0 _ _ _ hi.1.2.2
    have f2 : X.frozen? ⟨w.heap.size + 1 + 1, 0, none⟩ = false := frozen_of_row _ _ 0 _ _ hi.1.2.2
    have hDs : D = w.heap.size + 4 := by have := HSZ.out; omega
    have hP := (OAI.put HL.out.2 (Nat.le_refl _) hi 0 false).1
    have hgD := grownBy_putObj' ((X.setCell ⟨w.heap.size + 1, 0, none⟩ (.int .u8 ((0 : Nat) : Int))).setCell ⟨w.heap.size + 2, 0, none⟩ (.bool false)) D (.deferred none)
    have hE := OAI.kept HL.out.2 (Nat.le_refl _) hP hgD (fun k e => by cases e; omega)
    have hK2 : ((X.setCell ⟨w.heap.size + 1, 0, none⟩ (.int .u8 ((0 : Nat) : Int))).setCell ⟨w.heap.size + 2, 0, none⟩ (.bool false)).heap[D]? = some (.deferred (some [])) := ((OAI.put HL.out.2 (Nat.le_refl _) hi 0 false).2.2 D (by right; left; exact hDs) (Array.getElem?_eq_some_iff.1 hK).1).trans hK
    have k1 := cell_of_row _ _ 0 _ _ _ hE.1.2.1
    have k2 := cell_of_row _ _ 0 _ _ _ hE.1.2.2
    have HE : Hid (Below w.heap.size w (((X.setCell ⟨w.heap.size + 1, 0, none⟩ (.int .u8 0)).setCell ⟨w.heap.size + 1 + 1, 0, none⟩ (.bool false)).putObj D (.deferred none)) ∧ (((X.setCell ⟨w.heap.size + 1, 0, none⟩ (.int .u8 0)).setCell ⟨w.heap.size + 1 + 1, 0, none⟩ (.bool false)).putObj D (.deferred none)).cell? ⟨w.heap.size + 1, 0, none⟩ = some (.int .u8 0) ∧ (((X.setCell ⟨w.heap.size + 1, 0, none⟩ (.int .u8 0)).setCell ⟨w.heap.size + 1 + 1, 0, none⟩ (.bool false)).putObj D (.deferred none)).cell? ⟨w.heap.size + 1 + 1, 0, none⟩ = some (.bool false) ∧ ((X.setCell ⟨w.heap.size + 1, 0, none⟩ (.int .u8 0)).setCell ⟨w.heap.size + 1 + 1, 0, none⟩ (.bool false)).heap[D]? = some (.deferred (some []))) := Lib.hid (And.intro hE.2.2 (And.intro k1 (And.intro k2 hK2)))
    clear hE hgD hP hK2 k1 k2 hi
    gi_wp2_with fail
    go_wp2_with fail
    generalize ((X.setCell ⟨w.heap.size + 1, 0, none⟩ (.int .u8 0)).setCell ⟨w.heap.size + 1 + 1, 0, none⟩ (.bool false)) = Z at HE ⊢
    obtain ⟨h1, k1, k2, hK2⟩ := HE.out
    (try simp only [Exit.noGoto])
    refine ⟨by simp, .inl ⟨_, _, rfl, run_takeDeferred hK2, ?_⟩⟩
    exact ⟨_, by simp [results, Tryd.results41, go_sem, k1, k2], rfl, h1⟩
  case done =>
    rintro D xs X hD rfl hi hK
    obtain ⟨_, hi⟩ := hi
    have c1 := cell_of_row _ _ 0 _ _ _ hi.1.2.1
    have f1 := frozen_of_row _ _ 0 _ _ hi.1.2.1
    have c2 : X.cell? ⟨w.heap.size + 1 + 1, 0, none⟩ = _ := cell_of_row _ _ 0 _ _ _ hi.1.2.2
    have f2 : X.frozen? ⟨w.heap.size + 1 + 1, 0, none⟩ = false := frozen_of_row _ _ 0 _ _ hi.1.2.2
    have hDs : D = w.heap.size + 4 := by have := HSZ.out; omega
    have hP := (OAI.put HL.out.2 (Nat.le_refl _) hi 0 false).1
    have hgD := grownBy_putObj' ((X.setCell ⟨w.heap.size + 1, 0, none⟩ (.int .u8 ((0 : Nat) : Int))).setCell ⟨w.heap.size + 2, 0, none⟩ (.bool false)) D (.deferred none)
    have hE := OAI.kept HL.out.2 (Nat.le_refl _) hP hgD (fun k e => by cases e; omega)
    have hK2 : ((X.setCell ⟨w.heap.size + 1, 0, none⟩ (.int .u8 ((0 : Nat) : Int))).setCell ⟨w.heap.size + 2, 0, none⟩ (.bool false)).heap[D]? = some (.deferred (some [])) := ((OAI.put HL.out.2 (Nat.le_refl _) hi 0 false).2.2 D (by right; left; exact hDs) (Array.getElem?_eq_some_iff.1 hK).1).trans hK
    have k1 := cell_of_row _ _ 0 _ _ _ hE.1.2.1
    have k2 := cell_of_row _ _ 0 _ _ _ hE.1.2.2
    have HE : Hid (Below w.heap.size w (((X.setCell ⟨w.heap.size + 1, 0, none⟩ (.int .u8 0)).setCell ⟨w.heap.size + 1 + 1, 0, none⟩ (.bool false)).putObj D (.deferred none)) ∧ (((X.setCell ⟨w.heap.size + 1, 0, none⟩ (.int .u8 0)).setCell ⟨w.heap.size + 1 + 1, 0, none⟩ (.bool false)).putObj D (.deferred none)).cell? ⟨w.heap.size + 1, 0, none⟩ = some (.int .u8 0) ∧ (((X.setCell ⟨w.heap.size + 1, 0, none⟩ (.int .u8 0)).setCell ⟨w.heap.size + 1 + 1, 0, none⟩ (.bool false)).putObj D (.deferred none)).cell? ⟨w.heap.size + 1 + 1, 0, none⟩ = some (.bool false) ∧ ((X.setCell ⟨w.heap.size + 1, 0, none⟩ (.int .u8 0)).setCell ⟨w.heap.size + 1 + 1, 0, none⟩ (.bool false)).heap[D]? = some (.deferred (some []))) := Lib.hid (And.intro hE.2.2 (And.intro k1 (And.intro k2 hK2)))
    clear hE hgD hP hK2 k1 k2 hi
    go_wp2_with fail
    generalize ((X.setCell ⟨w.heap.size + 1, 0, none⟩ (.int .u8 0)).setCell ⟨w.heap.size + 1 + 1, 0, none⟩ (.bool false)) = Z at HE ⊢
    obtain ⟨h1, k1, k2, hK2⟩ := HE.out
    (try simp only [Exit.noGoto])
    refine ⟨by simp, .inl ⟨_, _, rfl, run_takeDeferred hK2, ?_⟩⟩
    exact ⟨_, by simp [results, Tryd.results41, go_sem, k1, k2], rfl, h1⟩
  case body =>
    rintro l2 pre x a' X hl2 ⟨hpre, hx⟩ hlo ⟨hpk, hi⟩ rfl
    have hplen : pre.length = x := by rw [hpre, List.length_range]
    have c0' := cell_of_row _ _ 0 _ _ _ hi.1.1
    have c1 := cell_of_row _ _ 0 _ _ _ hi.1.2.1
    have f1 := frozen_of_row _ _ 0 _ _ hi.1.2.1
    have c2 := cell_of_row _ _ 0 _ _ _ hi.1.2.2
    have f2 := frozen_of_row _ _ 0 _ _ hi.1.2.2
    have HI := Lib.hid hi
    have HP := Lib.hid (And.intro hplen (And.intro hpk hx))
    clear hi hplen hpk hx hpre hlo hI0 hsz
    have hq : ((pos l x : Int) == place) = false := by rw [beq_eq_false_iff_ne]; exact HK.out x HP.out.2.2
    by_cases hg : place < (pos l x : Int)
    · gi_wp2_with fail
      exact ⟨KeptM.refl _ _, rfl, HI.out⟩
    · gi_wp2_with fail
      exact ⟨KeptM.refl _ _, Below.refl _ _, HI.out⟩
end Go.Proofs.YtcdmaapjcckbmaaDoor
