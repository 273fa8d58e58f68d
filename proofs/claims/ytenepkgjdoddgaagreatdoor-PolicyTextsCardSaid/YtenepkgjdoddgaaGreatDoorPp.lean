/- Texts laid into one: Pp. -/
import Derived.Test.YtenepkgjdoddgaaGreatDoorSw
import Derived.Test.YtenepkgjdoddgaaGreatDoorNi
import Derived.Test.YtenepkgjdoddgaaGreatDoorPn
import Derived.Test.YtenepkgjdoddgaaGreatDoorPo
import Derived.Test.YtenepkgjdoddgaaGreatDoorPl
import Derived.Test.YtenepkgjdoddgaaGreatDoorRm
import Derived.Deep.CutRange
import Derived.Deep.DeepCutAuto
/- policy's laws: the lines of a policy's text, gone over. -/
namespace Go.Proofs.YtenepkgjdoddgaaGreatDoor
open Go.RowKit Go.Shelf

attribute [local go_sem] Oper.semAt_some
/-- The next piece: a line, or the empty one behind all lines. -/
theorem next_line {Ls : List ByteArray} {pre : List (ByteArray × Nat)} {x : ByteArray × Nat} (hne : ∀ y ∈ Ls, y ≠ ⟨#[]⟩) (h : NextOf (Ls ++ [(⟨#[]⟩ : ByteArray)]).zipIdx pre x) :
    (x.1 ≠ ⟨#[]⟩ ∧ NextOf Ls.zipIdx pre x) ∨ (x.1 = ⟨#[]⟩ ∧ pre = Ls.zipIdx) := by
  obtain ⟨k, rfl, hx⟩ := h
  have e : (Ls ++ [(⟨#[]⟩ : ByteArray)]).zipIdx = Ls.zipIdx ++ [(⟨#[]⟩, Ls.length)] := by rw [List.zipIdx_append]; simp
  rw [e] at hx ⊢
  by_cases hk : k < Ls.length
  · left
    rw [List.getElem?_append_left (by rw [List.length_zipIdx]; exact hk)] at hx
    refine ⟨?_, k, ?_, hx⟩
    · rw [List.getElem?_zipIdx] at hx
      obtain ⟨y, hy, rfl⟩ := Option.map_eq_some_iff.1 hx
      exact hne y (List.mem_of_getElem? hy)
    · rw [List.take_append_of_le_length (by rw [List.length_zipIdx]; omega)]
  · right
    rw [List.getElem?_append_right (by rw [List.length_zipIdx]; omega), List.length_zipIdx] at hx
    have hk2 : k = Ls.length := by
      have := (List.getElem?_eq_some_iff.1 hx).1
      simp at this
      omega
    subst hk2
    simp at hx
    subst hx
    refine ⟨rfl, ?_⟩
    rw [List.take_left' (by rw [List.length_zipIdx])]

set_option maxRecDepth 100000 in
set_option maxHeartbeats 4000000 in
theorem lines_in (n : Nat) (hn : 6 ≤ n) (l S n₀ : Nat) (s : ByteArray) (Ls : List ByteArray) (J Jx : List (ByteArray × Nat) → World → Prop) (w : World) (hs : s.size < 4294967281) (hp : pcs 10 s = Ls ++ [⟨#[]⟩]) (hne : ∀ y ∈ Ls, y ≠ ⟨#[]⟩) (hn₀ : n₀ ≤ w.heap.size)
    (hS : Blk w S 9 #[.string s]) (hJ : StayM (Hq (fun _ => False) 11 w.heap.size) J) (hJx : StayM (Hq (fun _ => False) 11 w.heap.size) Jx)
    (hY : ∀ pre (x : ByteArray × Nat) X, NextOf Ls.zipIdx pre x → w.heap.size + 11 ≤ X.heap.size → J pre X → YieldAt Fence.wide 0 Tryz.prog l #[.int .i64 (x.2 : Nat), .string x.1] X fun e Y => (e = .returned (.bool true) ∧ J (pre ++ [x]) Y ∧ KeptM (Hq (fun _ => False) 11 w.heap.size) X Y ∧ Below n₀ X Y) ∨ (e = .returned (.bool false) ∧ Jx (pre ++ [x]) Y ∧ KeptM (Hq (fun _ => False) 11 w.heap.size) X Y))
    (h0 : J [] w) :
    CallsIn Fence.wide n Tryz.prog 55 #[.func (.yield l) #[] #[], .pointer (some ⟨S, 0, none⟩)] w fun e Y => (∃ v, e = .returned v) ∧
      ((∃ xs, xs = Ls.zipIdx ∧ J xs Y) ∨ (∃ pre, True ∧ Jx pre Y)) := by
  refine callsIn_of_wp_marks Tryz.func55 rfl trivial ?_ rfl
  simp only [Tryz.ntmps55, List.size_toArray, List.length_cons, List.length_nil, Nat.reduceAdd, Nat.reduceSub, Array.replicate_succ, Array.replicate_zero, List.push_toArray, List.append_toArray, List.nil_append, List.cons_append]
  have c0 : w.cell? ⟨S, 0, none⟩ = some (.string s) := cell_of_row w _ 0 _ _ _ hS
  have hlS := hS.lt
  have HY := Lib.hid hY
  clear hY hS
  gi_wp2_with fail
  refine (wpIn_wide (n := n)).2 (wp_scope_straight ((wpIn_wide (n := n)).1 ?_))
  gi_wp2_with fail
  refine wpIn_label ?_
  gi_wp2_with fail
  refine ⟨trivial, fun _ => by omega, ?_⟩
  refine (callsIn_wide.2 (pieces_fn s _)).mono ?_
  rintro e V ⟨rfl, rfl⟩
  have hW := balloc (balloc (Below.refl w.heap.size w) (.cells #[.func (.yield l) #[] #[]] 98)) (.cells #[.string s] 9)
  have hj := hJ.alloc (.cells #[.string s] 9) (hJ.alloc (.cells #[.func (.yield l) #[] #[]] 98) h0)
  have k0 := (Blk.new w 98 #[.func (.yield l) #[] #[]]).alloc (.cells #[.string s] 9)
  have k1 := Blk.new (w.alloc (.cells #[.func (.yield l) #[] #[]] 98)) 9 #[.string s]
  have hsz : ((w.alloc (.cells #[.func (.yield l) #[] #[]] 98)).alloc (.cells #[.string s] 9)).heap.size = w.heap.size + 2 := by simp
  simp only [World.size_alloc] at k1 ⊢
  obtain ⟨W0, hW0⟩ : ∃ W0, (w.alloc (.cells #[.func (.yield l) #[] #[]] 98)).alloc (.cells #[.string s] 9) = W0 := ⟨_, rfl⟩
  rw [hW0] at hW hj k0 k1 hsz ⊢
  clear hW0 h0 c0
  gi_wp2_with fail
  refine wpIn_rangeQ (n := n) (by omega) (gf := 87) (lb := #[.pointer (some ⟨w.heap.size + 1, 0, none⟩)]) rfl (enters_of Tryz.func87 (by kernel_rfl) rfl)
    (pieces_seqQ (n - 1) (by omega) (w.heap.size + 1) n₀ s W0 hs (by omega) k1) (Below.refl _ _) (by omega) (fun k h => h.elim) (fun _ => rfl)
    (fun pre X => ((∀ y ∈ pre, y.1 ≠ ⟨#[]⟩) ∧ J pre X) ∧ Blk X w.heap.size 98 #[.func (.yield l) #[] #[]])
    (fun c q X => c = .exit 0 ∧ ((∃ pre x, q = pre ++ [x] ∧ pre = Ls.zipIdx ∧ J pre X) ∨ Jx q X))
    ?hI ?hIx ⟨⟨fun y h => by simp at h, hj⟩, k0⟩
    (fun x a' X => a' = { tmps := #[.func (.yield l) #[] #[], .pointer (some ⟨S, 0, none⟩), .pointer (some ⟨w.heap.size, 0, none⟩), .int .i64 (x.2 : Nat), .string x.1, .string s, .func (.func 87) #[] #[.pointer (some ⟨w.heap.size + 1, 0, none⟩)], .int .i64 (x.2 : Nat), .string x.1, undef, undef, undef, undef, undef, undef, undef, undef, undef], defers := [] })
    (fun x a' _ X Y row hs hg hr => hs)
    ?assign ?body ?done ?stop
  case assign =>
    rintro l2 pre x X K hgd hXs hi hK
    gi_wp2_with fail
    exact hK _ _ (KeptM.refl _ _) (Below.refl _ _) hi rfl
  case body =>
    rintro l2 pre x a' X hl2 hgd hXs ⟨⟨hnp, hj⟩, hbx⟩ rfl
    have hc : X.cell? ⟨w.heap.size, 0, none⟩ = some (.func (.yield l) #[] #[]) := cell_of_row X _ 0 _ _ _ hbx
    rw [hp] at hgd
    have hq : ∀ k, Hq (fun _ => False) 7 (W0.heap.size + 2) k ∨ k = W0.heap.size ∨ k = W0.heap.size + 1 → Hq (fun _ => False) 11 w.heap.size k ∧ k ≠ w.heap.size := fun k h => by
      rw [hsz] at h
      simp only [Hq, false_or] at h ⊢
      omega
    rcases next_line hne hgd with ⟨hx, hz⟩ | ⟨hx, hz⟩
    · obtain ⟨fn, tmps, assign, body, hy, hR⟩ := YieldAt.wide (m' := n - 1 - 1 - 1) (HY.out pre x X hz (by omega) hj)
      have hxs : (x.1.toList == []) = false := by
        rw [beq_eq_false_iff_ne, ByteArray.toList_eq]
        intro e
        apply hx
        apply ByteArray.ext
        exact Array.toList_inj.1 e
      have HB := Lib.hid (And.intro hbx (And.intro hXs (show ∀ y ∈ pre ++ [x], y.1 ≠ ⟨#[]⟩ from fun y h => by rcases List.mem_append.1 h with h | h; exact hnp y h; simp at h; subst h; exact hx)))
      clear hbx hgd hj hXs hx hz hnp
      gi_wp2_with fail
      refine ⟨fun _ => by omega, ?_⟩
      refine RoundIn.mono (rnd_at l2 hR) ?_
      clear hc hy hR
      rintro e Y (⟨rfl, hj, hkp, hbl⟩ | ⟨rfl, hjx, hkp⟩)
      · have hbx : Blk Y w.heap.size 98 #[.func (.yield l) #[] #[]] := (hkp.2 _ (.inr (by omega)) HB.out.1.lt).trans HB.out.1
        have HE := Lib.hid (And.intro (hkp.mono (fun k h => (hq k h).1)) (And.intro hbl (And.intro (And.intro HB.out.2.2 hj) hbx)))
        clear hkp hbl hj hbx HB
        gi_wp2_with fail
        exact HE.out
      · have HE := Lib.hid (And.intro (hkp.mono (fun k h => (hq k h).1)) hjx)
        clear hkp hjx HB
        gi_wp2_with fail
        exact ⟨HE.out.1, rfl, .inr HE.out.2⟩
    · have hxs : (x.1.toList == []) = true := by rw [hx, ByteArray.toList_eq]; rfl
      have HE := Lib.hid (And.intro hj hz)
      clear hbx hgd hj hXs hx hz hnp
      gi_wp2_with fail
      all_goals
        refine ⟨fun f e => (by cases e), ?_⟩
        rename_i K hK _ _ _ heq
        clear heq
        refine hK _ _ ?_
        clear hK K
        gi_wp2_with fail
        exact ⟨KeptM.refl _ _, rfl, .inl ⟨pre, x, rfl, HE.out.2, HE.out.1⟩⟩
  case done =>
    rintro D xs X hD hx ⟨⟨hnp, _⟩, _⟩ hK
    exfalso
    rw [hx, hp, List.zipIdx_append] at hnp
    exact hnp (⟨#[]⟩, 0 + Ls.length) (by simp) rfl
  case stop =>
    rintro D c q X hD _ ⟨rfl, hx⟩ hK
    have HX := Lib.hid (And.intro hx hK)
    clear hx hK
    gi_wp2_with fail
    rw [Exit.noGoto_normal]
    obtain ⟨hx, hK⟩ := HX.out
    refine ⟨by simp, .inl ⟨_, _, rfl, run_takeDeferred hK, ?_⟩⟩
    refine ⟨_, results_none rfl _ _ _, ⟨_, rfl⟩, ?_⟩
    rcases hx with ⟨pre, x, _, rfl, h3⟩ | h3
    · exact .inl ⟨_, rfl, hJ.put _ h3 (.inr (by omega))⟩
    · exact .inr ⟨_, trivial, hJx.put _ h3 (.inr (by omega))⟩
  case hI =>
    refine StayM.and ?_ (StayM.blk ?_ _ (fun _ => _))
    · exact fun pre X Y row h hg hr => ⟨h.1, hJ pre X Y row h.2 hg (fun r e => by have := hr r e; rw [hsz] at this; simp only [Hq, false_or] at this ⊢; omega)⟩
    · rw [hsz]; simp only [Hq, false_or]; omega
  case hIx =>
    intro c q X Y row h hg hr
    refine ⟨h.1, h.2.imp (fun ⟨pre, x, e1, e2, h3⟩ => ⟨pre, x, e1, e2, hJ pre X Y row h3 hg (fun r e => by have := hr r e; rw [hsz] at this; simp only [Hq, false_or] at this ⊢; omega)⟩) (fun h3 => hJx q X Y row h3 hg (fun r e => by have := hr r e; rw [hsz] at this; simp only [Hq, false_or] at this ⊢; omega))⟩
end Go.Proofs.YtenepkgjdoddgaaGreatDoor

/- policy's laws: the lines of a policy's text, as a sequence. -/
namespace Go.Proofs.YtenepkgjdoddgaaGreatDoor
open Go.RowKit Go.Shelf

attribute [local go_sem] Oper.semAt_some
/-- The lines that a policy has, none for one that may not be. -/
def lsE (d : Nat) (cs : List (List Nat × Nat)) (rs : List (List Nat × Nat × Nat)) : List (List UInt8) := if chk d cs rs = 0 then lnsP d cs rs else []
def baL (l : List (List UInt8)) : List ByteArray := l.map fun x => ⟨x.toArray⟩
theorem split_lines : ∀ l : List (List UInt8), (∀ x ∈ l, (10 : UInt8) ∉ x) → Lib.split (l.flatMap endL) [10] = l ++ [[]]
  | [], _ => split_none 10 [] (by simp)
  | x :: l, h => by
    have e : (x :: l).flatMap endL = x ++ 10 :: l.flatMap endL := by simp [endL]
    rw [e, split_step 10 x _ (h x (by simp)), split_lines l (fun y hy => h y (by simp [hy]))]
    rfl
theorem lnsP_ne (d : Nat) (cs : List (List Nat × Nat)) (rs : List (List Nat × Nat × Nat)) : ∀ x ∈ lnsP d cs rs, x ≠ [] := by
  intro x hx
  rcases List.mem_cons.1 hx with rfl | h
  · unfold lnD; simp
  · rcases List.mem_append.1 h with h | h
    · obtain ⟨c, h1, rfl⟩ := List.mem_map.1 h
      unfold lnC; simp
    · obtain ⟨c, h1, rfl⟩ := List.mem_map.1 h
      unfold lnR; simp
theorem pcs_txE (d : Nat) (cs : List (List Nat × Nat)) (rs : List (List Nat × Nat × Nat)) (hc : ∀ c ∈ cs, Ad c.1) (hr : ∀ c ∈ rs, Ad c.1 ∧ c.2.1 < 4294967296) :
    (⟨(txE d cs rs).toArray⟩ : ByteArray).size < 4294967281 ∧ pcs 10 ⟨(txE d cs rs).toArray⟩ = baL (lsE d cs rs) ++ [⟨#[]⟩] ∧ ∀ y ∈ baL (lsE d cs rs), y ≠ ⟨#[]⟩ := by
  unfold txE lsE
  by_cases hk : chk d cs rs = 0
  · rw [if_pos hk, if_pos hk]
    have hlen : cs.length ≤ 64 ∧ rs.length ≤ 64 := by
      unfold chk at hk
      split at hk <;> omega
    have hsm := lnsP_small (d := d) hc hr
    refine ⟨?_, ?_, ?_⟩
    · rw [ba_siz]
      have h1 := flat_len _ hsm
      rw [lnsP_len] at h1
      unfold txP
      omega
    · have h := pcs_of (s := ⟨(txP d cs rs).toArray⟩) (split_lines _ (no_end (d := d) hc (fun c h => (hr c h).1)))
      rw [h]
      simp [baL]
    · intro y hy e
      obtain ⟨x, h1, rfl⟩ := List.mem_map.1 hy
      refine lnsP_ne d cs rs x h1 ?_
      have := congrArg (fun b : ByteArray => b.data.toList) e
      simpa using this
  · rw [if_neg hk, if_neg hk]
    refine ⟨by rw [ba_siz]; simp, ?_, by simp [baL]⟩
    have h := pcs_of (s := ⟨([] : List UInt8).toArray⟩) (split_none 10 [] (by simp))
    rw [h]
    rfl
/-- The lines of a text, each with its number. -/
theorem lines_seqQ (n : Nat) (hn : 6 ≤ n) (S n₀ : Nat) (s : ByteArray) (Ls : List ByteArray) (w : World) (hs : s.size < 4294967281) (hp : pcs 10 s = Ls ++ [⟨#[]⟩]) (hne : ∀ y ∈ Ls, y ≠ ⟨#[]⟩) (hn₀ : n₀ ≤ w.heap.size) (hS : Blk w S 9 #[.string s]) :
    SeqQ n Tryz.prog 55 #[.pointer (some ⟨S, 0, none⟩)] (fun x : ByteArray × Nat => #[.int .i64 (x.2 : Nat), .string x.1]) n₀ (fun _ => False) 11 (NextOf Ls.zipIdx) (fun xs => xs = Ls.zipIdx) (fun _ => True) w := fun l J Jx W hW hJ hJx hY h0 =>
  lines_in n hn l S n₀ s Ls J Jx W hs hp hne (Nat.le_trans hn₀ hW.size) (hS.keep hW) hJ hJx hY h0
set_option maxRecDepth 100000 in
theorem lines_fn (d : Nat) (cv rv : Value) (cs : List (List Nat × Nat)) (rs : List (List Nat × Nat × Nat)) (w : World) (hd : d < 18446744073709551616) (hcs : ClA w cv cs) (hrs : RlA w rv rs) (hT : TZ w) (h10 : T10 w) :
    Calls Tryz.prog 21 #[.agg #[.int .u64 d, cv, rv]] w fun e w' => ∃ S, e = .returned (.func (.func 55) #[] #[.pointer (some ⟨S, 0, none⟩)]) ∧ Blk w' S 9 #[.string ⟨(txE d cs rs).toArray⟩] ∧ w.heap.size ≤ S ∧ Below w.heap.size w w' := by
  have hmf : ∀ (fn : Fn) (first cap : Array Value) (w : World), (Instr.makeFunc fn first cap).run Tryz.prog w = .ok (.func fn first cap) w := fun _ _ _ _ => rfl
  have hW := balloc (Below.refl w.heap.size w) (.cells #[.int .u64 d, cv, rv] 27)
  have HX := Lib.hid (And.intro (hcs.new hW) (And.intro (hrs.new hW) (And.intro (hT.keep hW) (And.intro (h10.keep hW) hW))))
  have k0 := cell_of_row _ _ 0 _ _ _ (Blk.new w 27 #[.int .u64 d, cv, rv])
  have k1 := cell_of_row _ _ 1 _ _ _ (Blk.new w 27 #[.int .u64 d, cv, rv])
  have k2 := cell_of_row _ _ 2 _ _ _ (Blk.new w 27 #[.int .u64 d, cv, rv])
  obtain ⟨_, x1, c1, rfl, _⟩ := id hcs
  obtain ⟨_, x2, c2, rfl, _⟩ := id hrs
  clear hcs hrs hT h10 hW
  go_enter Tryz.func21, Tryz.ntmps21
  go_wp2_with fail
  refine (ptext_any d _ _ cs rs _ hd HX.out.1 HX.out.2.1 HX.out.2.2.1 HX.out.2.2.2.1).mono ?_
  rintro e w1 ⟨rfl, h1⟩
  clear k0 k1 k2
  go_wp2
  go_ret
  have hs := World.size_alloc w (.cells #[.int .u64 d, .slice x1 cs.length c1, .slice x2 rs.length c2] 27)
  have hm : w.heap.size ≤ (w.alloc (.cells #[.int .u64 d, .slice x1 cs.length c1, .slice x2 rs.length c2] 27)).heap.size := by omega
  exact ⟨_, rfl, Blk.new _ _ _, Nat.le_trans hm h1.size, balloc (HX.out.2.2.2.2.trans (h1.mono hm)) _⟩
end Go.Proofs.YtenepkgjdoddgaaGreatDoor

/- policy's laws: PolicyTexts: the walk. -/
namespace Go.Proofs.YtenepkgjdoddgaaGreatDoor
open Go.RowKit Go.Shelf
attribute [local go_sem] Oper.semAt_some
/-- How far a walk goes that is left behind n turns, or behind the first. -/
theorem tx_done (N : Nat) (n : Int) (h : N = 0 ∨ (N : Int) < n) : min (N : Int) (max 1 n) = N := by omega
theorem tx_left (N k : Nat) (n : Int) (h1 : 1 ≤ k) (h2 : k ≤ N) (h3 : n ≤ k) (h4 : k = 1 ∨ (k : Int) - 1 < n) : min (N : Int) (max 1 n) = k := by omega
/-- Ways that meet at the head of a round: what follows is shown once. -/
theorem tx_join {F : Nat → World → Prop} {FR : Nat → Nat → Value → Value → Value → Act} {WX : World → World} {G : Act → World → Prop} {R : Prop}
    (f : Kept1 (∀ D X v1 v2 v3, F D X → G (FR D X.heap.size v1 v2 v3) (WX X)) → R) (t : ∀ D X v1 v2 v3, F D X → G (FR D X.heap.size v1 v2 v3) (WX X)) : R := f ⟨t⟩
theorem Abide.ows {β : Type} {B base : Nat} {v : Value} {l : List (List UInt8)} {X0 : World} (h0 : OwS X0 base v l) (hB : X0.heap.size ≤ B) : Abide B (fun (_ : β) X => OwS X base v l) := fun _ X Y row hs hg hr =>
  World.ownsRow.kept hs hg (by
    cases hv : v.ownBlock with
    | none => exact .inl rfl
    | some g =>
      right
      intro e
      have h1 := hr g e.symm
      have h2 := (World.ownsRow.lt h0 g hv).2
      omega)
/-- What stands in the law's boxes all the while: the policy, the number, the answer, the wanted lines. -/
def EP (d : Nat) (cv rv : Value) (n : Int) (x : Option Addr) (cap gs : Nat) (L : List (List UInt8)) (w X : World) : Prop :=
  ((((Blk X w.heap.size 27 #[.int .u64 d, cv, rv] ∧ Blk X (w.heap.size + 1) 3 #[.int .i64 n]) ∧ Blk X (w.heap.size + 2) 4 #[.bool false]) ∧ Blk X gs 45 #[.slice x L.length cap]) ∧ OwS X (w.heap.size + 3) (.slice x L.length cap) L) ∧ Below w.heap.size w X
theorem EP.abide {β : Type} {d : Nat} {cv rv : Value} {n : Int} {x : Option Addr} {cap gs : Nat} {L : List (List UInt8)} {w X0 : World} {q : Nat} (h : EP d cv rv n x cap gs L w X0) (hB : X0.heap.size ≤ q) : Abide q (fun (_ : β) X => EP d cv rv n x cap gs L w X) := by
  obtain ⟨⟨⟨⟨⟨h2, h3⟩, h4⟩, h5⟩, h6⟩, h7⟩ := h
  exact (((((Abide.blk (Nat.lt_of_lt_of_le h2.lt hB) _ (fun _ => _)).and (Abide.blk (Nat.lt_of_lt_of_le h3.lt hB) _ (fun _ => _))).and (Abide.blk (Nat.lt_of_lt_of_le h4.lt hB) _ (fun _ => _))).and (Abide.blk (Nat.lt_of_lt_of_le h5.lt hB) _ (fun _ => _))).and (Abide.ows h6 hB)).and (Abide.below (Nat.le_refl _) (Nat.le_trans h7.size hB))
theorem EP.alloc {d : Nat} {cv rv : Value} {n : Int} {x : Option Addr} {cap gs : Nat} {L : List (List UInt8)} {w X : World} (h : EP d cv rv n x cap gs L w X) (o : Obj) : EP d cv rv n x cap gs L w (X.alloc o) := (EP.abide (β := Unit) h (Nat.le_refl _)).alloc (s := ()) o h
theorem EP.new {d : Nat} {cv rv : Value} {n : Int} {x : Option Addr} {cap gs : Nat} {L : List (List UInt8)} {w X Y : World} (h : EP d cv rv n x cap gs L w X) (k : Below X.heap.size X Y) : EP d cv rv n x cap gs L w Y := (EP.abide (β := Unit) h (Nat.le_refl _)).new (s := ()) h k
/-- The wanted line at its place. -/
theorem EP.want {d : Nat} {cv rv : Value} {n : Int} {x : Option Addr} {cap gs : Nat} {L : List (List UInt8)} {w X : World} (h : EP d cv rv n x cap gs L w X) {k : Nat} {b : List UInt8} (hk : L[k]? = some b) : ∃ g, x = some ⟨g, 0, none⟩ ∧ g < X.heap.size ∧ X.cell? ⟨g, k, none⟩ = some (.string ⟨b.toArray⟩) := by
  obtain ⟨x', cap', hv, _, hx⟩ := h.1.2.at
  cases hv
  obtain ⟨g, rfl, _, hg, hc⟩ := hx (fun e => by rw [e] at hk; simp at hk)
  exact ⟨g, rfl, hg, hc k b hk⟩
theorem Abide.stay {β : Type} {q : Nat} {J : β → World → Prop} (h : Abide q J) {M : Nat → Prop} (hM : ∀ k, M k → q ≤ k) : StayM M J := fun s X Y row hs hg hr => h s X Y row hs hg (fun r e => hM r (hr r e))
theorem hq_ge {B : Nat} : ∀ k, (Hq (fun _ => False) 11 (B + 2) k ∨ k = B ∨ k = B + 1) → B ≤ k := fun k h => by
  simp only [Hq, false_or] at h
  omega
/-- The next line of all, with its number. -/
theorem next_ln {L : List (List UInt8)} {pre : List (ByteArray × Nat)} {y : ByteArray × Nat} (h : NextOf (baL L).zipIdx pre y) : ∃ b, L[pre.length]? = some b ∧ y = (⟨b.toArray⟩, pre.length) := by
  obtain ⟨k, rfl, hx⟩ := h
  have hk := (List.getElem?_eq_some_iff.1 hx).1
  rw [List.getElem?_zipIdx] at hx
  obtain ⟨z, hz, rfl⟩ := Option.map_eq_some_iff.1 hx
  unfold baL at hz
  rw [List.getElem?_map] at hz
  obtain ⟨b, hb, rfl⟩ := Option.map_eq_some_iff.1 hz
  have e : ((baL L).zipIdx.take k).length = k := by rw [List.length_take]; omega
  rw [e]
  exact ⟨b, hb, by simp⟩
theorem baL_len (L : List (List UInt8)) : (baL L).zipIdx.length = L.length := by simp [baL]
theorem OwS.low {X : World} {base base' : Nat} {v : Value} {l : List (List UInt8)} (h : OwS X base v l) (hb : base' ≤ base) : OwS X base' v l := ⟨h.1, h.2.imp id (fun ⟨g, cap, cur, e, h1, r⟩ => ⟨g, cap, cur, e, Nat.le_trans hb h1, r⟩)⟩
theorem OwS.set {X : World} {base g : Nat} {v : Value} {l : List (List UInt8)} (h : OwS X base v l) (hb : g < base) (u : Value) : OwS (X.setCell ⟨g, 0, none⟩ u) base v l := World.ownsRow.kept h (grownBy_setCell' X g u) (by
    cases hv : v.ownBlock with
    | none => exact .inl rfl
    | some k =>
      right
      intro e
      have h1 := (World.ownsRow.lt h k hv).1
      cases e
      omega)
set_option maxRecDepth 100000 in
set_option maxHeartbeats 4000000 in
theorem texts_long (d : Nat) (x1 x2 : Option Addr) (n1 c1 n2 c2 : Nat) (n : Int) (w : World) (h : ¬ (n1 ≤ 20 ∧ n2 ≤ 20)) (hT : TZ w) :
    Calls Tryz.prog 4 #[.agg #[.int .u64 d, .slice x1 n1 c1, .slice x2 n2 c2], .int .i64 n] w fun e w' => e = .returned (.bool true) ∧ Below w.heap.size w w' := by
  obtain ⟨X, hX⟩ : ∃ X, ((w.alloc (.cells #[.int .u64 d, .slice x1 n1 c1, .slice x2 n2 c2] 27)).alloc (.cells #[.int .i64 n] 3)).alloc (.cells #[.bool false] 4) = X := ⟨_, rfl⟩
  have b1 : Blk X w.heap.size 27 #[.int .u64 d, .slice x1 n1 c1, .slice x2 n2 c2] := by rw [← hX]; exact ((Blk.new w _ _).alloc _).alloc _
  have b3 : Blk X (w.heap.size + 1 + 1) 4 #[.bool false] := by rw [← hX, ← World.size_alloc w (.cells #[.int .u64 d, .slice x1 n1 c1, .slice x2 n2 c2] 27)]; exact Blk.newS _ _ _ _
  have hW : Below w.heap.size w X := by rw [← hX]; exact balloc (balloc (balloc (Below.refl _ _) _) _) _
  have HX := Lib.hid hX
  have k0 := cell_of_row _ _ 0 _ _ _ b1
  have k1 := cell_of_row _ _ 1 _ _ _ b1
  have k2 := cell_of_row _ _ 2 _ _ _ b1
  have H0 := Lib.hid (And.intro b3 (And.intro hW (hT.keep hW)))
  have HF := few_any d x1 x2 n1 c1 n2 c2 X
  rw [decide_eq_false h] at HF
  clear hX b1 b3 hW hT
  go_enter Tryz.func4, Tryz.ntmps4
  go_wp2_with fail
  rw [HX.out]
  go_wp2_with fail
  refine HF.mono ?_
  rintro e w1 ⟨rfl, h1⟩
  have hT1 := H0.out.2.2.keep h1
  have hb1 := H0.out.1.keep h1
  have H1 := Lib.hid (And.intro hb1 (H0.out.2.1.trans (h1.mono H0.out.2.1.size)))
  clear k0 k1 k2 h1 hb1 HF h
  go_wp2_with fail
  refine (pworks_any _ hT1).mono ?_
  rintro e w2 ⟨rfl, h2⟩
  have hb2 := H1.out.1.keep h2
  have hw2 := H1.out.2.trans (h2.mono H1.out.2.size)
  have q0 := cell_of_row _ _ 0 _ _ _ hb2
  have f0 := frozen_of_row _ _ 0 _ _ hb2
  have HE := Lib.hid (And.intro (heap_setCell_same w2 (w.heap.size + 1 + 1) 0 _ _ (.bool true) hb2) (hw2.setCell (p := ⟨w.heap.size + 1 + 1, 0, none⟩) (by show w.heap.size ≤ w.heap.size + 1 + 1; omega) (.bool true)))
  clear hb2 hw2 h2
  go_wp2
  have q1 := cell_of_row _ _ 0 _ _ _ HE.out.1
  exact ⟨rfl, .bool true, by simp [results, Tryz.results4, go_sem, q1], rfl, HE.out.2⟩
set_option maxRecDepth 100000 in
set_option maxHeartbeats 8000000 in
theorem texts_ok (d : Nat) (x1 x2 : Option Addr) (c1 c2 : Nat) (cs : List (List Nat × Nat)) (rs : List (List Nat × Nat × Nat)) (n : Int) (w : World) (hd : d < 18446744073709551616) (hcs : ClA w (.slice x1 cs.length c1) cs) (hrs : RlA w (.slice x2 rs.length c2) rs) (hl : cs.length ≤ 20 ∧ rs.length ≤ 20) (hk : chk d cs rs = 0) (hT : TZ w) (h10 : T10 w) :
    Calls Tryz.prog 4 #[.agg #[.int .u64 d, .slice x1 cs.length c1, .slice x2 rs.length c2], .int .i64 n] w fun e w' => e = .returned (.bool true) ∧ Below w.heap.size w w' := by
  have hnil : ∀ (p : Value) w, (binOp .eql 48 (.func (.func 55) #[] #[p]) .nilFunc).run Tryz.prog w = .ok (.bool false) w := fun _ _ => by kernel_rfl
  obtain ⟨X, hX⟩ : ∃ X, ((w.alloc (.cells #[.int .u64 d, .slice x1 cs.length c1, .slice x2 rs.length c2] 27)).alloc (.cells #[.int .i64 n] 3)).alloc (.cells #[.bool false] 4) = X := ⟨_, rfl⟩
  have b1 : Blk X w.heap.size 27 #[.int .u64 d, .slice x1 cs.length c1, .slice x2 rs.length c2] := by rw [← hX]; exact ((Blk.new w _ _).alloc _).alloc _
  have b2 : Blk X (w.heap.size + 1) 3 #[.int .i64 n] := by rw [← hX]; exact (Blk.newS w _ _ _).alloc _
  have b3 : Blk X (w.heap.size + 1 + 1) 4 #[.bool false] := by rw [← hX, ← World.size_alloc w (.cells #[.int .u64 d, .slice x1 cs.length c1, .slice x2 rs.length c2] 27)]; exact Blk.newS _ _ _ _
  have hW : Below w.heap.size w X := by rw [← hX]; exact balloc (balloc (balloc (Below.refl _ _) _) _) _
  have hsX : X.heap.size = w.heap.size + 3 := by rw [← hX]; simp
  have HX := Lib.hid hX
  have HP := Lib.hid (fun (Y : World) (hY : Below X.heap.size X Y) => (by
    have q := b1.keep hY
    exact ⟨cell_of_row _ _ 0 _ _ _ q, cell_of_row _ _ 1 _ _ _ q, cell_of_row _ _ 2 _ _ _ q⟩ : Y.cell? ⟨w.heap.size, 0, none⟩ = some (.int .u64 d) ∧ Y.cell? ⟨w.heap.size, 1, none⟩ = some (.slice x1 cs.length c1) ∧ Y.cell? ⟨w.heap.size, 2, none⟩ = some (.slice x2 rs.length c2)))
  have HA := Lib.hid (fun (Y : World) (q : Below w.heap.size w Y) => (⟨hcs.new q, hrs.new q, hT.keep q, h10.keep q⟩ : ClA Y (.slice x1 cs.length c1) cs ∧ RlA Y (.slice x2 rs.length c2) rs ∧ TZ Y ∧ T10 Y))
  have HW := Lib.hid (fun (Y : World) (hY : Below X.heap.size X Y) => hW.trans (hY.mono hW.size))
  have HL := Lib.hid hl
  have HD := Lib.hid hd
  have HC := Lib.hid (pcs_txE d cs rs (fun c hc => (hcs.1 c hc).1) (fun c hc => ⟨(hrs.1 c hc).1, (hrs.1 c hc).2.1⟩))
  have HF := few_any d x1 x2 cs.length c1 rs.length c2 X
  rw [decide_eq_true hl] at HF
  have H0 := Lib.hid (And.intro b1 (And.intro b2 (And.intro b3 (And.intro hW hsX))))
  obtain ⟨k0, k1, k2⟩ := HP.out X (Below.refl _ _)
  have g0 : ((0 : Int) == 0) = true := rfl
  clear hX b1 b2 b3 hW hT h10 hcs hrs hl hd hsX
  refine (callsIn_wide (n := 20)).1 ?_
  refine callsIn_of_wp_marks Tryz.func4 rfl trivial ?_ rfl
  simp only [Tryz.ntmps4, List.size_toArray, List.length_cons, List.length_nil, Nat.reduceAdd, Nat.reduceSub, Array.replicate_succ, Array.replicate_zero, List.push_toArray, List.append_toArray, List.nil_append, List.cons_append]
  refine (wpIn_wide (n := 20)).2 ?_
  go_wp2_with fail
  rw [HX.out]
  go_wp2_with fail
  refine HF.mono ?_
  rintro e w1 ⟨rfl, h1⟩
  have H1 := Lib.hid h1
  obtain ⟨k0, k1, k2⟩ := HP.out w1 h1
  clear h1 HF
  go_wp2_with fail
  have hq := ptext_any d _ _ cs rs _ HD.out (HA.out _ (HW.out _ H1.out)).1 (HA.out _ (HW.out _ H1.out)).2.1 (HA.out _ (HW.out _ H1.out)).2.2.1 (HA.out _ (HW.out _ H1.out)).2.2.2
  rw [hk] at hq
  refine hq.mono ?_
  clear hq
  rintro e w2 ⟨rfl, h2⟩
  have H2 := Lib.hid (H1.out.trans (h2.mono H1.out.size))
  obtain ⟨k0, k1, k2⟩ := HP.out w2 H2.out
  clear h2 H1
  go_wp2_with fail
  have hq := rtext9_any d _ _ cs rs _ HD.out (HA.out _ (HW.out _ H2.out)).1 (HA.out _ (HW.out _ H2.out)).2.1
  rw [hk] at hq
  refine hq.mono ?_
  clear hq
  rintro e w3 ⟨rfl, h3⟩
  have h3' := H2.out.trans (h3.mono H2.out.size)
  have kS := Blk.new w3 45 #[.slice none 0 0]
  have h4 := balloc h3' (.cells #[.slice none 0 0] 45)
  clear H2 h3
  obtain ⟨w4, hw4⟩ : ∃ w4, w3.alloc (.cells #[.slice none 0 0] 45) = w4 := ⟨_, rfl⟩
  have hgs : X.heap.size ≤ w3.heap.size := h3'.size
  rw [hw4] at kS h4
  have HW4 := Lib.hid hw4
  have H4 := Lib.hid (And.intro h4 (And.intro kS hgs))
  obtain ⟨k0, k1, k2⟩ := HP.out w4 h4
  have fS := frozen_of_row _ _ 0 _ _ kS
  clear h3' h4 kS hgs hw4
  go_wp2_with (first | rw [HW4.out] | fail)
  have hq := rlines_any d _ _ cs rs _ HD.out (HA.out _ (HW.out _ H4.out.1)).1 (HA.out _ (HW.out _ H4.out.1)).2.1 ⟨by have := HL.out; omega, by have := HL.out; omega⟩
  refine hq.mono ?_
  clear hq
  rintro e w5 ⟨v, rfl, hown, h5⟩
  have hLs : lsE d cs rs = lnsP d cs rs := by unfold lsE; rw [if_pos hk]
  rw [← hLs] at hown
  obtain ⟨x, cap, rfl, hxl, hxx⟩ := hown.at
  have kS := H4.out.2.1.keep h5
  have q5 := H4.out.1.trans (h5.mono H4.out.1.size)
  have cS := cell_of_row _ _ 0 _ _ _ kS
  have fS := frozen_of_row _ _ 0 _ _ kS
  have hgl : w3.heap.size < w4.heap.size := H4.out.2.1.lt
  have hgX : w.heap.size + 3 ≤ w3.heap.size := by have := H4.out.2.2; have := H0.out.2.2.2.2; omega
  have hg := grownBy_setCell' w5 w3.heap.size (.slice x (lsE d cs rs).length cap)
  have hE : EP d (.slice x1 cs.length c1) (.slice x2 rs.length c2) n x cap w3.heap.size (lsE d cs rs) w (w5.setCell ⟨w3.heap.size, 0, none⟩ (.slice x (lsE d cs rs).length cap)) :=
    ⟨⟨⟨⟨⟨(H0.out.1.keep q5).kept hg (by intro e; have := Option.some.inj e; omega), (H0.out.2.1.keep q5).kept hg (by intro e; have := Option.some.inj e; omega)⟩, (H0.out.2.2.1.keep q5).kept hg (by intro e; have := Option.some.inj e; omega)⟩, heap_setCell_same w5 _ 0 _ _ _ kS⟩, (hown.set hgl _).low (by omega)⟩, (HW.out _ q5).setCell (p := ⟨w3.heap.size, 0, none⟩) (by show w.heap.size ≤ w3.heap.size; omega) _⟩
  have HE := Lib.hid hE
  clear hown hxl hxx kS q5 hgl hgX hg hE h5 k0 k1 k2 hLs
  generalize lsE d cs rs = L at HE HC ⊢
  obtain ⟨w6, hw6⟩ : ∃ w6, w5.setCell ⟨w3.heap.size, 0, none⟩ (.slice x L.length cap) = w6 := ⟨_, rfl⟩
  rw [hw6] at HE
  have HW6 := Lib.hid hw6
  clear hw6
  obtain ⟨k0, k1, k2⟩ : w6.cell? ⟨w.heap.size, 0, none⟩ = some (.int .u64 d) ∧ w6.cell? ⟨w.heap.size, 1, none⟩ = some (.slice x1 cs.length c1) ∧ w6.cell? ⟨w.heap.size, 2, none⟩ = some (.slice x2 rs.length c2) := by
    have q := HE.out.1.1.1.1.1
    exact ⟨cell_of_row _ _ 0 _ _ _ q, cell_of_row _ _ 1 _ _ _ q, cell_of_row _ _ 2 _ _ _ q⟩
  go_wp2_with (first | rw [HW6.out] | fail)
  have hq := lines_fn d _ _ cs rs _ HD.out (HA.out _ HE.out.2).1 (HA.out _ HE.out.2).2.1 (HA.out _ HE.out.2).2.2.1 (HA.out _ HE.out.2).2.2.2
  refine hq.mono ?_
  clear hq
  rintro e w7 ⟨S, rfl, hS, hSl, h7⟩
  have HE7 := Lib.hid (And.intro (HE.out.new h7) (And.intro hS hSl))
  have hgs : w3.heap.size < S := Nat.lt_of_lt_of_le HE.out.1.1.2.lt hSl
  have hgw : w.heap.size + 3 ≤ w3.heap.size := by have := H4.out.2.2; have := H0.out.2.2.2.2; omega
  clear k0 k1 k2 HE hS hSl h7 H4 HP HX
  generalize w3.heap.size = gs at HE7 hgs hgw ⊢
  generalize hTE : (⟨(txE d cs rs).toArray⟩ : ByteArray) = TE at HE7 HC ⊢
  go_wp2_with fail
  refine (num_any9 _ _).mono ?_
  rintro e V ⟨rfl, rfl⟩
  go_wp2_with fail
  have kT := Blk.new w7 3 #[.int .i64 0]
  have hE7 := HE7.out.1.alloc (.cells #[.int .i64 0] 3)
  have kA := HE7.out.2.1.alloc (.cells #[.int .i64 0] 3)
  have hgT : S < w7.heap.size := HE7.out.2.1.lt
  clear HE7 hnil fS
  obtain ⟨W0, hW0⟩ : ∃ W0, w7.alloc (.cells #[.int .i64 0] 3) = W0 := ⟨_, rfl⟩
  rw [hW0] at kT hE7 kA ⊢
  clear hW0
  generalize w7.heap.size = gT at kT hgT ⊢
  have cT := cell_of_row W0 _ 0 _ _ _ kT
  have HY := Lib.hid (And.intro kA (And.intro hE7 (And.intro kT (And.intro hgs (And.intro hgT hgw)))))
  clear kA hE7 kT hgs hgT hgw
  refine wp_loop_rounds 3 ?_
  rw [rounds_succ]
  go_wp2_with fail
  obtain ⟨kA, hef, kT, hgs, hgl, hgw⟩ := HY.out
  have hef1 := hef.alloc (.cells #[.int .i64 0] 3)
  have kA1 := kA.alloc (.cells #[.int .i64 0] 3)
  have kT1 := kT.alloc (.cells #[.int .i64 0] 3)
  have kK1 := Blk.new W0 3 #[.int .i64 0]
  have hgK : gT < W0.heap.size := kT.lt
  have hAB : Abide W0.heap.size (fun (_ : Unit) X => (EP d (.slice x1 cs.length c1) (.slice x2 rs.length c2) n x cap gs L w X ∧ Blk X S 9 #[.string TE]) ∧ Blk X gT 3 #[.int .i64 0]) := ((EP.abide hef (Nat.le_refl _)).and (Abide.blk kA.lt _ (fun _ => #[Value.string TE]))).and (Abide.blk kT.lt _ (fun _ => #[Value.int .i64 0]))
  clear hef kA kT HY cT
  obtain ⟨V, hV⟩ : ∃ V, W0.alloc (.cells #[.int .i64 0] 3) = V := ⟨_, rfl⟩
  rw [hV] at hef1 kA1 kT1 kK1 ⊢
  clear hV
  generalize W0.heap.size = gK at kK1 hgK hAB ⊢
  have HV := Lib.hid (And.intro hef1 (And.intro kA1 (And.intro kT1 (And.intro kK1 (And.intro hAB (show w.heap.size ≤ gK by omega))))))
  clear hef1 kA1 kT1 kK1 hAB hgl hgw hgs hgK
  refine tx_join (G := ?G) (F := (fun D X => ((EP d (.slice x1 cs.length c1) (.slice x2 rs.length c2) n x cap gs L w X ∧ Blk X S 9 #[.string TE]) ∧ Blk X gT 3 #[.int .i64 0]) ∧ V.heap.size ≤ D ∧ X.heap[D]? = some (.deferred (some [])))) (FR := fun D q v1 v2 v3 => { tmps := #[Value.agg #[Value.int IntKind.u64 (d : Nat), Value.slice x1 cs.length c1, Value.slice x2 rs.length c2], Value.int IntKind.i64 n, Value.pointer (some { block := w.heap.size, off := 0 }), Value.pointer (some { block := w.heap.size + 1, off := 0 }), Value.pointer (some { block := w.heap.size + 1 + 1, off := 0 }), Value.string TE, Value.int IntKind.i64 0, Value.string TE, Value.int IntKind.i64 0, Value.pointer (some { block := gs, off := 0 }), Value.func (Fn.func 55) #[] #[Value.pointer (some { block := S, off := 0 })], Value.pointer (some { block := q, off := 0 }), Value.pointer (some { block := gK, off := 0 }), undef, undef, undef, undef, Value.agg #[Value.int IntKind.u64 (d : Nat), Value.slice x1 cs.length c1, Value.slice x2 rs.length c2], Value.bool true, Value.bool false, undef, Value.tuple #[Value.string TE, Value.int IntKind.i64 0], Value.agg #[Value.int IntKind.u64 (d : Nat), Value.slice x1 cs.length c1, Value.slice x2 rs.length c2], Value.tuple #[Value.string TE, Value.int IntKind.i64 0], Value.string TE, Value.int IntKind.i64 0, Value.tuple #[Value.string TE, Value.int IntKind.i64 0], Value.agg #[Value.int IntKind.u64 (d : Nat), Value.slice x1 cs.length c1, Value.slice x2 rs.length c2], Value.tuple #[Value.string TE, Value.int IntKind.i64 0], Value.string TE, Value.int IntKind.i64 0, Value.int IntKind.i64 0, Value.bool true, Value.agg #[Value.int IntKind.u64 (d : Nat), Value.slice x1 cs.length c1, Value.slice x2 rs.length c2], Value.slice x L.length cap, Value.agg #[Value.int IntKind.u64 (d : Nat), Value.slice x1 cs.length c1, Value.slice x2 rs.length c2], Value.func (Fn.func 55) #[] #[Value.pointer (some { block := S, off := 0 })], Value.string TE, Value.string TE, Value.bool false, Value.bool false, Value.int IntKind.i64 0, Value.int IntKind.i64 0, Value.int IntKind.i64 0, Value.bool false, Value.bool false, Value.bool false, Value.func (Fn.func 55) #[] #[Value.pointer (some { block := S, off := 0 })], Value.bool false, Value.bool false, Value.int IntKind.i64 0, Value.bool true, Value.int IntKind.i64 0, Value.int IntKind.i64 1, Value.func (Fn.func 55) #[] #[Value.pointer (some { block := S, off := 0 })], undef, undef, undef, undef, undef, undef, undef, undef, undef, undef, undef, undef, undef, undef, undef, undef, undef, undef, undef, undef, undef, undef, undef, undef, undef, undef, undef, undef, Value.int IntKind.i64 0, Value.bool true, Value.bool true, v1, Value.slice x L.length cap, Value.int IntKind.i64 ↑L.length, Value.int IntKind.i64 n, v2, v3, Value.bool false, Value.bool false, Value.bool false, Value.int IntKind.i64 0, Value.bool false, Value.bool false, undef, undef, undef, undef, Value.bool false, Value.bool false, Value.int IntKind.i64 0, undef, undef, undef, undef, undef, undef, undef, undef, undef, undef, undef, undef, undef, undef, undef, undef, undef, undef, undef, undef, undef, undef, undef, undef], defers := [{ target := Target.collected D, args := #[] }] }) (WX := fun X => X.alloc (.cells #[.int .i64 1] 3)) (fun (keep : Kept1 _) => ?ways) ?rest
  case ways =>
    refine (wpIn_wide (n := 20)).1 ?_
    refine wpIn_rangeQ (n := 20) (by omega) (gf := 55) (lb := #[.pointer (some ⟨S, 0, none⟩)]) rfl (enters_of Tryz.func55 (by kernel_rfl) rfl)
      (lines_seqQ (20 - 1) (by omega) S w.heap.size TE (baL L) V HC.out.1 HC.out.2.1 HC.out.2.2 HV.out.1.2.size HV.out.2.1) (Below.refl _ _) HV.out.1.2.size (fun k h => h.elim) (fun _ => rfl)
      (fun pre X => (((EP d (.slice x1 cs.length c1) (.slice x2 rs.length c2) n x cap gs L w X ∧ Blk X S 9 #[.string TE]) ∧ Blk X gT 3 #[.int .i64 0]) ∧ Blk X gK 3 #[.int .i64 (pre.length : Nat)]) ∧ (pre.length = 0 ∨ (pre.length : Int) < n))
      (fun c pre X => (((EP d (.slice x1 cs.length c1) (.slice x2 rs.length c2) n x cap gs L w X ∧ Blk X S 9 #[.string TE]) ∧ Blk X gT 3 #[.int .i64 0]) ∧ Blk X gK 3 #[.int .i64 (pre.length : Nat)]) ∧ (c = .exit 2 ∧ n ≤ pre.length ∧ (pre.length = 1 ∨ (pre.length : Int) - 1 < n) ∧ 1 ≤ pre.length ∧ pre.length ≤ L.length))
      (Abide.stay (((((EP.abide HV.out.1 (Nat.le_refl _)).and (Abide.blk HV.out.2.1.lt _ (fun _ => #[Value.string TE]))).and (Abide.blk HV.out.2.2.1.lt _ (fun _ => #[Value.int .i64 0]))).and (Abide.blk HV.out.2.2.2.1.lt _ (fun pre => #[Value.int .i64 ((List.length pre : Nat) : Int)]))).and (fun _ _ _ _ hs _ _ => hs)) hq_ge)
      (fun _ => Abide.stay (((((EP.abide HV.out.1 (Nat.le_refl _)).and (Abide.blk HV.out.2.1.lt _ (fun _ => #[Value.string TE]))).and (Abide.blk HV.out.2.2.1.lt _ (fun _ => #[Value.int .i64 0]))).and (Abide.blk HV.out.2.2.2.1.lt _ (fun pre => #[Value.int .i64 ((List.length pre : Nat) : Int)]))).and (fun _ _ _ _ hs _ _ => hs)) hq_ge)
      ⟨⟨⟨⟨HV.out.1, HV.out.2.1⟩, HV.out.2.2.1⟩, HV.out.2.2.2.1⟩, .inl rfl⟩
      (fun y a' _ => a' = { tmps := #[Value.agg #[Value.int IntKind.u64 (d : Nat), Value.slice x1 cs.length c1, Value.slice x2 rs.length c2], Value.int IntKind.i64 n, Value.pointer (some { block := w.heap.size, off := 0 }), Value.pointer (some { block := w.heap.size + 1, off := 0 }), Value.pointer (some { block := w.heap.size + 1 + 1, off := 0 }), Value.string TE, Value.int IntKind.i64 0, Value.string TE, Value.int IntKind.i64 0, Value.pointer (some { block := gs, off := 0 }), Value.func (Fn.func 55) #[] #[Value.pointer (some { block := S, off := 0 })], Value.pointer (some { block := gT, off := 0 }), Value.pointer (some { block := gK, off := 0 }), Value.int IntKind.i64 (y.2 : Nat), Value.string y.1, undef, undef, Value.agg #[Value.int IntKind.u64 (d : Nat), Value.slice x1 cs.length c1, Value.slice x2 rs.length c2], Value.bool true, Value.bool false, undef, Value.tuple #[Value.string TE, Value.int IntKind.i64 0], Value.agg #[Value.int IntKind.u64 (d : Nat), Value.slice x1 cs.length c1, Value.slice x2 rs.length c2], Value.tuple #[Value.string TE, Value.int IntKind.i64 0], Value.string TE, Value.int IntKind.i64 0, Value.tuple #[Value.string TE, Value.int IntKind.i64 0], Value.agg #[Value.int IntKind.u64 (d : Nat), Value.slice x1 cs.length c1, Value.slice x2 rs.length c2], Value.tuple #[Value.string TE, Value.int IntKind.i64 0], Value.string TE, Value.int IntKind.i64 0, Value.int IntKind.i64 0, Value.bool true, Value.agg #[Value.int IntKind.u64 (d : Nat), Value.slice x1 cs.length c1, Value.slice x2 rs.length c2], Value.slice x L.length cap, Value.agg #[Value.int IntKind.u64 (d : Nat), Value.slice x1 cs.length c1, Value.slice x2 rs.length c2], Value.func (Fn.func 55) #[] #[Value.pointer (some { block := S, off := 0 })], Value.string TE, Value.string TE, Value.bool false, Value.bool false, Value.int IntKind.i64 0, Value.int IntKind.i64 0, Value.int IntKind.i64 0, Value.bool false, Value.bool false, Value.bool false, Value.func (Fn.func 55) #[] #[Value.pointer (some { block := S, off := 0 })], Value.bool false, Value.bool false, Value.int IntKind.i64 0, Value.bool true, undef, undef, Value.func (Fn.func 55) #[] #[Value.pointer (some { block := S, off := 0 })], Value.int IntKind.i64 (y.2 : Nat), Value.string y.1, undef, undef, undef, undef, undef, undef, undef, undef, undef, undef, undef, undef, undef, undef, undef, undef, undef, undef, undef, undef, undef, undef, undef, undef, undef, undef, undef, undef, undef, undef, undef, undef, undef, undef, undef, undef, undef, undef, undef, undef, undef, undef, undef, undef, undef, undef, undef, undef, undef, undef, undef, undef, undef, undef, undef, undef, undef, undef, undef, undef, undef, undef, undef, undef, undef, undef, undef, undef, undef, undef, undef, undef], defers := [] })
      (fun y a' _ X Y row hs hg hr => hs)
      ?assign ?body ?done ?stop
    case assign =>
      rintro l2 pre y X K hgd hXs hi hK
      have HI := Lib.hid hi
      have HK := Lib.hid hK
      clear hi hK
      gi_wp2_with fail
      exact HK.out _ _ (KeptM.refl _ _) (Below.refl _ _) HI.out rfl
    case body =>
      rintro l2 pre y a' X hl2 hgd hlo ⟨⟨⟨⟨hef, kA⟩, kT⟩, kK⟩, hd⟩ rfl
      obtain ⟨b, hb, rfl⟩ := next_ln hgd
      obtain ⟨g, hx, hgx, hcx⟩ := hef.want hb
      subst hx
      have cS := cell_of_row X _ 0 _ _ _ hef.1.1.2
      have cN := cell_of_row X _ 0 _ _ _ hef.1.1.1.1.2
      have cT := cell_of_row X _ 0 _ _ _ kT
      have cK := cell_of_row X _ 0 _ _ _ kK
      have fK := frozen_of_row X _ 0 _ _ kK
      have hix : pre.length < L.length := (List.getElem?_eq_some_iff.1 hb).1
      have hLm : L.length ≤ 9223372036854775807 := by obtain ⟨_, _, e, h, _⟩ := hef.1.2.at; exact h
      have hw1 : IntKind.i64.wrap ((pre.length : Int) + 1) = ((pre.length + 1 : Nat) : Int) := by rw [show ((pre.length : Int) + 1) = ((pre.length + 1 : Nat) : Int) by omega]; exact IntWalk.i64_in _ (by omega)
      have hnge : ¬ L.length ≤ pre.length := by omega
      have hg := grownBy_setCell' X gK (.int .i64 ((pre.length : Int) + 1))
      have hef2 := HV.out.2.2.2.2.1 () X (X.setCell ⟨gK, 0, none⟩ (.int .i64 ((pre.length : Int) + 1))) (some gK) ⟨⟨hef, kA⟩, kT⟩ hg (fun r e => by cases e; exact Nat.le_refl _)
      have kK2 : Blk (X.setCell ⟨gK, 0, none⟩ (.int .i64 ((pre.length : Int) + 1))) gK 3 #[.int .i64 ((pre.length : Int) + 1)] := heap_setCell_same X gK 0 _ _ (.int .i64 ((pre.length : Int) + 1)) kK
      have cT2 := cell_of_row _ _ 0 _ _ _ hef2.2
      have cN2 := cell_of_row _ _ 0 _ _ _ hef2.1.1.1.1.1.1.2
      have cK2 := cell_of_row _ _ 0 _ _ _ kK2
      have hKM : KeptM (fun k => Hq (fun _ => False) 11 (V.heap.size + 2) k ∨ k = V.heap.size ∨ k = V.heap.size + 1) X (X.setCell ⟨gK, 0, none⟩ (.int .i64 ((pre.length : Int) + 1))) := KeptM.grown hg (fun r e h => by cases e; have h1 := hq_ge _ h; have h2 := HV.out.2.2.2.1.lt; omega)
      have HX1 := Lib.hid (And.intro hef2 (And.intro kK2 (And.intro hd (And.intro hKM (And.intro HV.out.2.2.2.2.2 hix)))))
      have hl : (((pre ++ [((⟨b.toArray⟩ : ByteArray), pre.length)]).length : Nat) : Int) = (pre.length : Int) + 1 := by simp
      have HL1 := Lib.hid hl
      clear hl hef2 kK2 hef kA kT kK hlo hgd hb hLm hg hKM hd
      by_cases hcn : n ≤ (pre.length : Int) + 1
      · have hcb : decide (n ≤ (pre.length : Int) + 1) = true := decide_eq_true hcn
        gi_wp2_with fail
        obtain ⟨h3, hk3, hd, hlV, hsK, hix⟩ := HX1.out
        refine ⟨hlV, ⟨h3, by rw [HL1.out]; exact hk3⟩, rfl, by rw [HL1.out]; exact hcn, ?_, by simp, by simp; omega⟩
        rcases hd with hd | hd
        · exact .inl (by simp [List.length_eq_zero_iff.1 hd])
        · exact .inr (by rw [HL1.out]; omega)
      · have hcb : decide (n ≤ (pre.length : Int) + 1) = false := decide_eq_false hcn
        gi_wp2_with fail
        obtain ⟨h3, hk3, hd, hlV, hsK, hix⟩ := HX1.out
        exact ⟨hlV, (Below.refl _ X).setCell (p := ⟨gK, 0, none⟩) hsK _, ⟨h3, by rw [HL1.out]; exact hk3⟩, .inr (by rw [HL1.out]; omega)⟩
    case done =>
      rintro D xs X hD hxs ⟨⟨⟨⟨hef, kA⟩, kT⟩, kK⟩, hd⟩ hDD
      have hxl : xs.length = L.length := by rw [hxs, baL_len]
      rw [hxl] at kK hd
      have hmin := tx_done _ n hd
      have cS := cell_of_row X _ 0 _ _ _ hef.1.1.2
      have cN := cell_of_row X _ 0 _ _ _ hef.1.1.1.1.2
      have cT := cell_of_row X _ 0 _ _ _ kT
      have cK := cell_of_row X _ 0 _ _ _ kK
      have HF := Lib.hid (And.intro (And.intro (And.intro hef kA) kT) (And.intro (Nat.le_of_eq hD.symm) hDD))
      clear hef kA kT kK hDD hD hd hxs hxl
      go_wp2_with fail
      all_goals exact keep.1 D X _ _ _ HF.out
    case stop =>
      rintro D c pre X hD _ ⟨⟨⟨⟨hef, kA⟩, kT⟩, kK⟩, rfl, hn1, hn2, hn3, hn4⟩ hDD
      have hmin := tx_left L.length pre.length n hn3 hn4 hn1 hn2
      have cS := cell_of_row X _ 0 _ _ _ hef.1.1.2
      have cN := cell_of_row X _ 0 _ _ _ hef.1.1.1.1.2
      have cT := cell_of_row X _ 0 _ _ _ kT
      have cK := cell_of_row X _ 0 _ _ _ kK
      have HF := Lib.hid (And.intro (And.intro (And.intro hef kA) kT) (And.intro (Nat.le_of_eq hD.symm) hDD))
      clear hef kA kT kK hDD hD hn1 hn2 hn3 hn4
      refine (wpIn_wide (n := 20)).2 ?_
      go_wp2_with fail
      all_goals exact keep.1 D X _ _ _ HF.out
  case rest =>
    rintro D X v1 v2 v3 ⟨⟨⟨hef, kA⟩, kT⟩, hD, hDD⟩
    have hDl : D < X.heap.size := (Array.getElem?_eq_some_iff.1 hDD).1
    have hDD2 : (X.alloc (.cells #[.int .i64 1] 3)).heap[D]? = some (.deferred (some [])) := (Below.heap_alloc X _ D hDl).trans hDD
    have kT2 := Blk.new X 3 #[.int .i64 1]
    have hef2 := hef.alloc (.cells #[.int .i64 1] 3)
    have kA2 := kA.alloc (.cells #[.int .i64 1] 3)
    have hBX := hef.2
    have hwV : w.heap.size + 2 < V.heap.size := by have := HV.out.1.1.1.1.2.lt; omega
    have hwD : w.heap.size + 2 < D := Nat.lt_of_lt_of_le hwV hD
    have HWD := Lib.hid hwD
    clear hef kA kT hDD HV hwV hwD hD
    obtain ⟨W2, hW2⟩ : ∃ W2, X.alloc (.cells #[.int .i64 1] 3) = W2 := ⟨_, rfl⟩
    dsimp only
    rw [hW2] at hDD2 kT2 hef2 kA2 ⊢
    clear hW2
    have hgX : w.heap.size ≤ X.heap.size := hBX.size
    generalize X.heap.size = gT at kT2 hDl hgX ⊢
    clear hBX
    have cT := cell_of_row W2 _ 0 _ _ _ kT2
    have HY := Lib.hid (And.intro hDD2 (And.intro kT2 (And.intro hef2 (And.intro kA2 (And.intro hDl hgX)))))
    clear hDD2 kT2 hef2 kA2 hDl hgX
    rw [rounds_succ]
    go_wp2_with fail
    obtain ⟨hDD, kT, hef, kA, hDl, hgX⟩ := HY.out
    have hgK : gT < W2.heap.size := kT.lt
    have hlD : D < W2.heap.size := (Array.getElem?_eq_some_iff.1 hDD).1
    have hAB : Abide W2.heap.size (fun (_ : Unit) X => ((EP d (.slice x1 cs.length c1) (.slice x2 rs.length c2) n x cap gs L w X ∧ Blk X S 9 #[.string TE]) ∧ Blk X gT 3 #[.int .i64 1]) ∧ X.heap[D]? = some (.deferred (some []))) := (((EP.abide hef (Nat.le_refl _)).and (Abide.blk kA.lt _ (fun _ => #[Value.string TE]))).and (Abide.blk kT.lt _ (fun _ => #[Value.int .i64 1]))).and (Abide.heap hlD (fun _ => .deferred (some [])))
    have hef1 := hef.alloc (.cells #[.int .i64 0] 3)
    have kA1 := kA.alloc (.cells #[.int .i64 0] 3)
    have kT1 := kT.alloc (.cells #[.int .i64 0] 3)
    have hD1 : (W2.alloc (.cells #[.int .i64 0] 3)).heap[D]? = some (.deferred (some [])) := (Below.heap_alloc W2 _ D hlD).trans hDD
    have kK1 := Blk.new W2 3 #[.int .i64 0]
    clear hef kA kT HY cT hDD
    obtain ⟨V2, hV⟩ : ∃ V2, W2.alloc (.cells #[.int .i64 0] 3) = V2 := ⟨_, rfl⟩
    rw [hV] at hef1 kA1 kT1 kK1 hD1 ⊢
    clear hV
    generalize W2.heap.size = gK2 at kK1 hgK hAB hlD ⊢
    have hlV2 : D < V2.heap.size := (Array.getElem?_eq_some_iff.1 hD1).1
    have hwK : w.heap.size ≤ gK2 := by omega
    refine (wpIn_wide (n := 20)).1 ?_
    refine wpIn_rangeQ (n := 20) (by omega) (gf := 55) (lb := #[.pointer (some ⟨S, 0, none⟩)]) rfl (enters_of Tryz.func55 (by kernel_rfl) rfl)
      (lines_seqQ (20 - 1) (by omega) S w.heap.size TE (baL L) V2 HC.out.1 HC.out.2.1 HC.out.2.2 hef1.2.size kA1) (Below.refl _ _) hef1.2.size (fun k h => h.elim) (fun _ => rfl)
      (fun pre X => (((EP d (.slice x1 cs.length c1) (.slice x2 rs.length c2) n x cap gs L w X ∧ Blk X S 9 #[.string TE]) ∧ Blk X gT 3 #[.int .i64 1]) ∧ X.heap[D]? = some (.deferred (some []))) ∧ Blk X gK2 3 #[.int .i64 (pre.length : Nat)])
      (fun _ _ _ => False)
      (Abide.stay (((((EP.abide hef1 (Nat.le_refl _)).and (Abide.blk kA1.lt _ (fun _ => #[Value.string TE]))).and (Abide.blk kT1.lt _ (fun _ => #[Value.int .i64 1]))).and (Abide.heap hlV2 (fun _ => .deferred (some [])))).and (Abide.blk kK1.lt _ (fun pre => #[Value.int .i64 ((List.length pre : Nat) : Int)]))) hq_ge)
      (fun _ _ _ _ _ hs _ _ => hs)
      ⟨⟨⟨⟨hef1, kA1⟩, kT1⟩, hD1⟩, kK1⟩
      (fun y a' _ => a' = { tmps := #[Value.agg #[Value.int IntKind.u64 (d : Nat), Value.slice x1 cs.length c1, Value.slice x2 rs.length c2], Value.int IntKind.i64 n, Value.pointer (some { block := w.heap.size, off := 0 }), Value.pointer (some { block := w.heap.size + 1, off := 0 }), Value.pointer (some { block := w.heap.size + 1 + 1, off := 0 }), Value.string TE, Value.int IntKind.i64 0, Value.string TE, Value.int IntKind.i64 0, Value.pointer (some { block := gs, off := 0 }), Value.func (Fn.func 55) #[] #[Value.pointer (some { block := S, off := 0 })], Value.pointer (some { block := gT, off := 0 }), Value.pointer (some { block := gK2, off := 0 }), Value.int IntKind.i64 (y.2 : Nat), Value.string y.1, undef, undef, Value.agg #[Value.int IntKind.u64 (d : Nat), Value.slice x1 cs.length c1, Value.slice x2 rs.length c2], Value.bool true, Value.bool false, undef, Value.tuple #[Value.string TE, Value.int IntKind.i64 0], Value.agg #[Value.int IntKind.u64 (d : Nat), Value.slice x1 cs.length c1, Value.slice x2 rs.length c2], Value.tuple #[Value.string TE, Value.int IntKind.i64 0], Value.string TE, Value.int IntKind.i64 0, Value.tuple #[Value.string TE, Value.int IntKind.i64 0], Value.agg #[Value.int IntKind.u64 (d : Nat), Value.slice x1 cs.length c1, Value.slice x2 rs.length c2], Value.tuple #[Value.string TE, Value.int IntKind.i64 0], Value.string TE, Value.int IntKind.i64 0, Value.int IntKind.i64 0, Value.bool true, Value.agg #[Value.int IntKind.u64 (d : Nat), Value.slice x1 cs.length c1, Value.slice x2 rs.length c2], Value.slice x L.length cap, Value.agg #[Value.int IntKind.u64 (d : Nat), Value.slice x1 cs.length c1, Value.slice x2 rs.length c2], Value.func (Fn.func 55) #[] #[Value.pointer (some { block := S, off := 0 })], Value.string TE, Value.string TE, Value.bool false, Value.bool false, Value.int IntKind.i64 0, Value.int IntKind.i64 0, Value.int IntKind.i64 0, Value.bool false, Value.bool false, Value.bool false, Value.func (Fn.func 55) #[] #[Value.pointer (some { block := S, off := 0 })], Value.bool false, Value.bool false, Value.int IntKind.i64 1, Value.bool true, Value.int IntKind.i64 0, Value.int IntKind.i64 1, Value.func (Fn.func 55) #[] #[Value.pointer (some { block := S, off := 0 })], Value.int IntKind.i64 (y.2 : Nat), Value.string y.1, undef, undef, undef, undef, undef, undef, undef, undef, undef, undef, undef, undef, undef, undef, undef, undef, undef, undef, undef, undef, undef, undef, undef, undef, undef, undef, Value.int IntKind.i64 0, Value.bool true, Value.bool true, v1, Value.slice x L.length cap, Value.int IntKind.i64 ↑L.length, Value.int IntKind.i64 n, v2, v3, Value.bool false, Value.bool false, Value.bool false, Value.int IntKind.i64 0, Value.bool false, Value.bool false, undef, undef, undef, undef, Value.bool false, Value.bool false, Value.int IntKind.i64 0, undef, undef, undef, undef, undef, undef, undef, undef, undef, undef, undef, undef, undef, undef, undef, undef, undef, undef, undef, undef, undef, undef, undef, undef], defers := [] })
      (fun y a' _ X Y row hs hg hr => hs)
      ?assign ?body ?done ?stop
    case stop =>
      rintro D2 c pre X2 hD2 _ h _
      exact h.elim
    case assign =>
      rintro l2 pre y X K hgd hXs hi hK
      have HI := Lib.hid hi
      have HK := Lib.hid hK
      clear hi hK hef1 kA1 kT1 kK1 hAB hgK hlD hD1
      gi_wp2_with fail
      exact HK.out _ _ (KeptM.refl _ _) (Below.refl _ _) HI.out rfl
    case body =>
      rintro l2 pre y a' X hl2 hgd hlo ⟨⟨⟨⟨hef, kA⟩, kT⟩, hDD⟩, kK⟩ rfl
      obtain ⟨b, hb, rfl⟩ := next_ln hgd
      obtain ⟨g, hx, hgx, hcx⟩ := hef.want hb
      subst hx
      have cS := cell_of_row X _ 0 _ _ _ hef.1.1.2
      have cT := cell_of_row X _ 0 _ _ _ kT
      have cK := cell_of_row X _ 0 _ _ _ kK
      have fK := frozen_of_row X _ 0 _ _ kK
      have hix : pre.length < L.length := (List.getElem?_eq_some_iff.1 hb).1
      have hLm : L.length ≤ 9223372036854775807 := by obtain ⟨_, _, e, h, _⟩ := hef.1.2.at; exact h
      have hw1 : IntKind.i64.wrap ((pre.length : Int) + 1) = ((pre.length + 1 : Nat) : Int) := by rw [show ((pre.length : Int) + 1) = ((pre.length + 1 : Nat) : Int) by omega]; exact IntWalk.i64_in _ (by omega)
      have hnge : ¬ L.length ≤ pre.length := by omega
      have hg := grownBy_setCell' X gK2 (.int .i64 ((pre.length : Int) + 1))
      have hef2 := hAB () X (X.setCell ⟨gK2, 0, none⟩ (.int .i64 ((pre.length : Int) + 1))) (some gK2) ⟨⟨⟨hef, kA⟩, kT⟩, hDD⟩ hg (fun r e => by cases e; exact Nat.le_refl _)
      have kK2 : Blk (X.setCell ⟨gK2, 0, none⟩ (.int .i64 ((pre.length : Int) + 1))) gK2 3 #[.int .i64 ((pre.length : Int) + 1)] := heap_setCell_same X gK2 0 _ _ (.int .i64 ((pre.length : Int) + 1)) kK
      have cT2 := cell_of_row _ _ 0 _ _ _ hef2.1.2
      have cK2 := cell_of_row _ _ 0 _ _ _ kK2
      have hKM : KeptM (fun k => Hq (fun _ => False) 11 (V2.heap.size + 2) k ∨ k = V2.heap.size ∨ k = V2.heap.size + 1) X (X.setCell ⟨gK2, 0, none⟩ (.int .i64 ((pre.length : Int) + 1))) := KeptM.grown hg (fun r e h => by cases e; have h1 := hq_ge _ h; have h2 := kK1.lt; omega)
      have hl : (((pre ++ [((⟨b.toArray⟩ : ByteArray), pre.length)]).length : Nat) : Int) = (pre.length : Int) + 1 := by simp
      have HL1 := Lib.hid hl
      have HX1 := Lib.hid (And.intro hef2 (And.intro kK2 (And.intro hKM hwK)))
      clear hl hef2 kK2 hef kA kT kK hDD hef1 kA1 kT1 kK1 hAB hgK hlo hlD hD1 hlV2 hwK hgd hb hLm hg hKM
      gi_wp2_with fail
      obtain ⟨h3, hk3, hlV, hsK⟩ := HX1.out
      exact ⟨hlV, (Below.refl _ X).setCell (p := ⟨gK2, 0, none⟩) hsK _, h3, by rw [HL1.out]; exact hk3⟩
    case done =>
      rintro D2 xs X2 hD2 hxs ⟨⟨⟨⟨hef, kA⟩, kT⟩, hDD⟩, kK⟩ hDD2
      have hxl : xs.length = L.length := by rw [hxs, baL_len]
      rw [hxl] at kK
      have cS := cell_of_row X2 _ 0 _ _ _ hef.1.1.2
      have cT := cell_of_row X2 _ 0 _ _ _ kT
      have cK := cell_of_row X2 _ 0 _ _ _ kK
      have hne : D < D2 := by rw [hD2]; exact hlV2
      have HZ := Lib.hid (And.intro hef (And.intro hDD (And.intro hDD2 hne)))
      clear hef kA kT kK hDD hDD2 hef1 kA1 kT1 kK1 hAB hgK hlD hD1 hlV2 hwK hD2 hne hxs hxl
      go_wp2_with fail
      obtain ⟨hef, hDD, hDD2, hne⟩ := HZ.out
      have kT2 := Blk.new X2 3 #[.int .i64 2]
      have hef2 := hef.alloc (.cells #[.int .i64 2] 3)
      have hD1 := (Below.heap_alloc X2 (.cells #[.int .i64 2] 3) D (Array.getElem?_eq_some_iff.1 hDD).1).trans hDD
      have hD2 := (Below.heap_alloc X2 (.cells #[.int .i64 2] 3) D2 (Array.getElem?_eq_some_iff.1 hDD2).1).trans hDD2
      clear hef hDD hDD2 cS cT cK
      obtain ⟨X3, hX3⟩ : ∃ X3, X2.alloc (.cells #[.int .i64 2] 3) = X3 := ⟨_, rfl⟩
      rw [hX3] at kT2 hef2 hD1 hD2 ⊢
      clear hX3
      generalize X2.heap.size = gU at kT2 ⊢
      have cT := cell_of_row X3 _ 0 _ _ _ kT2
      have HE := Lib.hid (And.intro hef2 (And.intro hD1 (And.intro hD2 hne)))
      clear kT2 hef2 hD1 hD2 hne HZ
      rw [rounds_succ]
      go_wp2_with fail
      obtain ⟨hef, hD1, hD2, hne⟩ := HE.out
      have hPT : (⟨(txP d cs rs).toArray⟩ : ByteArray) = TE := by rw [← hTE]; unfold txE; rw [if_pos hk]
      have hA3 := HA.out _ hef.2
      have hq := parse_text d cs rs X3 HD.out hA3.1.1 hA3.2.1.1 hk hA3.2.2.1 hA3.2.2.2
      rw [hPT] at hq
      refine hq.mono ?_
      rintro e X4 ⟨vc, vr, rfl, hvc, hvr, h4⟩
      clear hq
      obtain ⟨_, y1, c3, rfl, _⟩ := id hvc
      obtain ⟨_, y2, c4, rfl, _⟩ := id hvr
      have hef4 := hef.new h4
      have hE1 := (h4.block D (Array.getElem?_eq_some_iff.1 hD1).1).trans hD1
      have hE2 := (h4.block D2 (Array.getElem?_eq_some_iff.1 hD2).1).trans hD2
      have HG := Lib.hid (And.intro hef4 (And.intro hE1 (And.intro hE2 (And.intro hne (And.intro hvc hvr)))))
      clear hef hD1 hD2 hne hef4 hE1 hE2 HE h4 hvc hvr hA3 hPT cT
      go_wp2_with fail
      refine (num_any9 _ _).mono ?_
      rintro e V ⟨rfl, rfl⟩
      obtain ⟨hef, hD1, hD2, hne, hvc, hvr⟩ := HG.out
      have kQ := Blk.new X4 27 #[.int .u64 d, .slice y1 cs.length c3, .slice y2 rs.length c4]
      have hB := balloc (Below.refl X4.heap.size X4) (.cells #[.int .u64 d, .slice y1 cs.length c3, .slice y2 rs.length c4] 27)
      obtain ⟨X5, hX5⟩ : ∃ X5, X4.alloc (.cells #[.int .u64 d, .slice y1 cs.length c3, .slice y2 rs.length c4] 27) = X5 := ⟨_, rfl⟩
      rw [hX5] at kQ hB ⊢
      have hef5 := hef.new hB
      have hE1 := (hB.block D (Array.getElem?_eq_some_iff.1 hD1).1).trans hD1
      have hE2 := (hB.block D2 (Array.getElem?_eq_some_iff.1 hD2).1).trans hD2
      have hvc5 := hvc.new hB
      have hvr5 := hvr.new hB
      generalize X4.heap.size = gQ at kQ ⊢
      have HR := Lib.hid (fun (Y : World) (hY : Below X5.heap.size X5 Y) => (And.intro (hef5.new hY) (And.intro ((hY.block D (Array.getElem?_eq_some_iff.1 hE1).1).trans hE1) (And.intro ((hY.block D2 (Array.getElem?_eq_some_iff.1 hE2).1).trans hE2) (And.intro (hvc5.new hY) (hvr5.new hY))))))
      have HQ := Lib.hid (fun (Y : World) (hY : Below X5.heap.size X5 Y) => (by
        have q := (hef5.new hY).1.1.1.1.1
        have r := kQ.keep hY
        exact ⟨cell_of_row _ _ 0 _ _ _ q, cell_of_row _ _ 1 _ _ _ q, cell_of_row _ _ 2 _ _ _ q, cell_of_row _ _ 0 _ _ _ r, cell_of_row _ _ 1 _ _ _ r, cell_of_row _ _ 2 _ _ _ r⟩ : Y.cell? ⟨w.heap.size, 0, none⟩ = some (.int .u64 d) ∧ Y.cell? ⟨w.heap.size, 1, none⟩ = some (.slice x1 cs.length c1) ∧ Y.cell? ⟨w.heap.size, 2, none⟩ = some (.slice x2 rs.length c2) ∧ Y.cell? ⟨gQ, 0, none⟩ = some (.int .u64 d) ∧ Y.cell? ⟨gQ, 1, none⟩ = some (.slice y1 cs.length c3) ∧ Y.cell? ⟨gQ, 2, none⟩ = some (.slice y2 rs.length c4)))
      obtain ⟨k0, k1, k2, k3, k4, k5⟩ := HQ.out X5 (Below.refl _ _)
      have HN := Lib.hid hne
      clear HG hef hD1 hD2 hne hvc hvr kQ hB hX5 hef5 hE1 hE2 hvc5 hvr5
      go_wp2_with fail
      have hq := rsame9_any d d _ _ _ _ cs cs rs rs X5 (HA.out _ (HR.out _ (Below.refl _ _)).1.2).1 (HA.out _ (HR.out _ (Below.refl _ _)).1.2).2.1 (HR.out _ (Below.refl _ _)).2.2.2.1 (HR.out _ (Below.refl _ _)).2.2.2.2
      rw [decide_eq_true ⟨rfl, rfl, rfl⟩] at hq
      refine hq.mono ?_
      rintro e X6 ⟨rfl, h6⟩
      clear hq k0 k1 k2 k3 k4 k5
      obtain ⟨k0, k1, k2, k3, k4, k5⟩ := HQ.out X6 h6
      have H6 := Lib.hid h6
      clear h6
      go_wp2_with fail
      have hq := psame_any d d _ _ _ _ cs cs rs rs X6 (HA.out _ (HR.out _ H6.out).1.2).1 (HA.out _ (HR.out _ H6.out).1.2).2.1 (HR.out _ H6.out).2.2.2.1 (HR.out _ H6.out).2.2.2.2
      rw [decide_eq_true ⟨rfl, rfl, rfl⟩] at hq
      refine hq.mono ?_
      rintro e X7 ⟨rfl, h7⟩
      clear hq k0 k1 k2 k3 k4 k5
      have H7 := Lib.hid (H6.out.trans (h7.mono H6.out.size))
      clear h7
      go_wp2_with fail
      refine (pworks_any _ (HA.out _ (HR.out _ H7.out).1.2).2.2.1).mono ?_
      rintro e X8 ⟨rfl, h8⟩
      obtain ⟨hef, hD1, hD2, _, _⟩ := HR.out _ (H7.out.trans (h8.mono H7.out.size))
      have hne := HN.out
      have cR := cell_of_row X8 _ 0 _ _ _ hef.1.1.1.2
      have fR := frozen_of_row X8 _ 0 _ _ hef.1.1.1.2
      have HG := Lib.hid (And.intro hef (And.intro hD1 (And.intro hD2 hne)))
      clear hef hD1 hD2 hne h8 HR HQ HN
      go_wp2
      obtain ⟨hef, hD9, hE9, hne⟩ := HG.out
      have hwD := HWD.out
      have bR9 := hef.1.1.1.2
      have hDY : (X8.setCell ⟨w.heap.size + 2, 0, none⟩ (.bool true)).heap[D]? = some (.deferred (some [])) := (Below.heap_setCell X8 ⟨w.heap.size + 2, 0, none⟩ _ D (by simp; omega)).trans hD9
      have hEY : (X8.setCell ⟨w.heap.size + 2, 0, none⟩ (.bool true)).heap[D2]? = some (.deferred (some [])) := (Below.heap_setCell X8 ⟨w.heap.size + 2, 0, none⟩ _ D2 (by simp; omega)).trans hE9
      have bY : Blk (X8.setCell ⟨w.heap.size + 2, 0, none⟩ (.bool true)) (w.heap.size + 2) 4 #[.bool true] := heap_setCell_same X8 _ 0 _ _ _ bR9
      have hBY : Below w.heap.size w (X8.setCell ⟨w.heap.size + 2, 0, none⟩ (.bool true)) := hef.2.setCell (p := ⟨w.heap.size + 2, 0, none⟩) (by simp) _
      obtain ⟨Y, hY⟩ : ∃ Y, X8.setCell ⟨w.heap.size + 2, 0, none⟩ (.bool true) = Y := ⟨_, rfl⟩
      have hY' : X8.setCell ⟨w.heap.size + 1 + 1, 0, none⟩ (.bool true) = Y := hY
      rw [hY] at hDY hEY bY hBY
      rw [hY']
      clear hY hY' hD9 hE9 bR9 cR fR hef HG
      have hD2' : (Y.putObj D2 (.deferred none)).heap[D]? = some (.deferred (some [])) := (World.putObj_heap_other (by omega)).trans hDY
      have bY2 : Blk (Y.putObj D2 (.deferred none)) (w.heap.size + 2) 4 #[.bool true] := bY.kept (grownBy_putObj' Y D2 _) (by intro e; cases e; omega)
      have bY3 : Blk ((Y.putObj D2 (.deferred none)).putObj D (.deferred none)) (w.heap.size + 2) 4 #[.bool true] := bY2.kept (grownBy_putObj' _ D _) (by intro e; cases e; omega)
      have q0 : ((Y.putObj D2 (.deferred none)).putObj D (.deferred none)).cell? ⟨w.heap.size + 1 + 1, 0, none⟩ = some (.bool true) := cell_of_row _ _ 0 _ _ _ bY3
      refine ⟨by simp, .inl ⟨_, _, rfl, run_takeDeferred hEY, ?_⟩⟩
      refine ⟨by simp, .inl ⟨_, _, rfl, run_takeDeferred hD2', ?_⟩⟩
      exact ⟨.bool true, by simp [results, Tryz.results4, go_sem, q0], rfl, (hBY.trans (below_put Y _ (by omega))).trans (below_put _ _ (by omega))⟩
set_option maxRecDepth 100000 in
set_option maxHeartbeats 8000000 in
theorem texts_bad (d : Nat) (x1 x2 : Option Addr) (c1 c2 : Nat) (cs : List (List Nat × Nat)) (rs : List (List Nat × Nat × Nat)) (n : Int) (w : World) (hd : d < 18446744073709551616) (hcs : ClA w (.slice x1 cs.length c1) cs) (hrs : RlA w (.slice x2 rs.length c2) rs) (hl : cs.length ≤ 20 ∧ rs.length ≤ 20) (hk : ¬ chk d cs rs = 0) (hT : TZ w) (h10 : T10 w) :
    Calls Tryz.prog 4 #[.agg #[.int .u64 d, .slice x1 cs.length c1, .slice x2 rs.length c2], .int .i64 n] w fun e w' => e = .returned (.bool true) ∧ Below w.heap.size w w' := by
  have hnil : ∀ (p : Value) w, (binOp .eql 48 (.func (.func 55) #[] #[p]) .nilFunc).run Tryz.prog w = .ok (.bool false) w := fun _ _ => by kernel_rfl
  obtain ⟨X, hX⟩ : ∃ X, ((w.alloc (.cells #[.int .u64 d, .slice x1 cs.length c1, .slice x2 rs.length c2] 27)).alloc (.cells #[.int .i64 n] 3)).alloc (.cells #[.bool false] 4) = X := ⟨_, rfl⟩
  have b1 : Blk X w.heap.size 27 #[.int .u64 d, .slice x1 cs.length c1, .slice x2 rs.length c2] := by rw [← hX]; exact ((Blk.new w _ _).alloc _).alloc _
  have b2 : Blk X (w.heap.size + 1) 3 #[.int .i64 n] := by rw [← hX]; exact (Blk.newS w _ _ _).alloc _
  have b3 : Blk X (w.heap.size + 1 + 1) 4 #[.bool false] := by rw [← hX, ← World.size_alloc w (.cells #[.int .u64 d, .slice x1 cs.length c1, .slice x2 rs.length c2] 27)]; exact Blk.newS _ _ _ _
  have hW : Below w.heap.size w X := by rw [← hX]; exact balloc (balloc (balloc (Below.refl _ _) _) _) _
  have hsX : X.heap.size = w.heap.size + 3 := by rw [← hX]; simp
  have HX := Lib.hid hX
  have HP := Lib.hid (fun (Y : World) (hY : Below X.heap.size X Y) => (by
    have q := b1.keep hY
    exact ⟨cell_of_row _ _ 0 _ _ _ q, cell_of_row _ _ 1 _ _ _ q, cell_of_row _ _ 2 _ _ _ q⟩ : Y.cell? ⟨w.heap.size, 0, none⟩ = some (.int .u64 d) ∧ Y.cell? ⟨w.heap.size, 1, none⟩ = some (.slice x1 cs.length c1) ∧ Y.cell? ⟨w.heap.size, 2, none⟩ = some (.slice x2 rs.length c2)))
  have HA := Lib.hid (fun (Y : World) (q : Below w.heap.size w Y) => (⟨hcs.new q, hrs.new q, hT.keep q, h10.keep q⟩ : ClA Y (.slice x1 cs.length c1) cs ∧ RlA Y (.slice x2 rs.length c2) rs ∧ TZ Y ∧ T10 Y))
  have HW := Lib.hid (fun (Y : World) (hY : Below X.heap.size X Y) => hW.trans (hY.mono hW.size))
  have HL := Lib.hid hl
  have HD := Lib.hid hd
  have HC := Lib.hid (pcs_txE d cs rs (fun c hc => (hcs.1 c hc).1) (fun c hc => ⟨(hrs.1 c hc).1, (hrs.1 c hc).2.1⟩))
  have HF := few_any d x1 x2 cs.length c1 rs.length c2 X
  rw [decide_eq_true hl] at HF
  have H0 := Lib.hid (And.intro b1 (And.intro b2 (And.intro b3 (And.intro hW hsX))))
  obtain ⟨k0, k1, k2⟩ := HP.out X (Below.refl _ _)
  have g0 : (((chk d cs rs : Nat) : Int) == (0 : Int)) = false := by simp; omega
  clear hX b1 b2 b3 hW hT h10 hcs hrs hl hd hsX
  refine (callsIn_wide (n := 20)).1 ?_
  refine callsIn_of_wp_marks Tryz.func4 rfl trivial ?_ rfl
  simp only [Tryz.ntmps4, List.size_toArray, List.length_cons, List.length_nil, Nat.reduceAdd, Nat.reduceSub, Array.replicate_succ, Array.replicate_zero, List.push_toArray, List.append_toArray, List.nil_append, List.cons_append]
  refine (wpIn_wide (n := 20)).2 ?_
  go_wp2_with fail
  rw [HX.out]
  go_wp2_with fail
  refine HF.mono ?_
  rintro e w1 ⟨rfl, h1⟩
  have H1 := Lib.hid h1
  obtain ⟨k0, k1, k2⟩ := HP.out w1 h1
  clear h1 HF
  go_wp2_with fail
  have hq := ptext_any d _ _ cs rs _ HD.out (HA.out _ (HW.out _ H1.out)).1 (HA.out _ (HW.out _ H1.out)).2.1 (HA.out _ (HW.out _ H1.out)).2.2.1 (HA.out _ (HW.out _ H1.out)).2.2.2
  refine hq.mono ?_
  clear hq
  rintro e w2 ⟨rfl, h2⟩
  have H2 := Lib.hid (H1.out.trans (h2.mono H1.out.size))
  obtain ⟨k0, k1, k2⟩ := HP.out w2 H2.out
  clear h2 H1
  go_wp2_with fail
  have hq := rtext9_any d _ _ cs rs _ HD.out (HA.out _ (HW.out _ H2.out)).1 (HA.out _ (HW.out _ H2.out)).2.1
  refine hq.mono ?_
  clear hq
  rintro e w3 ⟨rfl, h3⟩
  have h3' := H2.out.trans (h3.mono H2.out.size)
  have kS := Blk.new w3 45 #[.slice none 0 0]
  have h4 := balloc h3' (.cells #[.slice none 0 0] 45)
  clear H2 h3
  obtain ⟨w4, hw4⟩ : ∃ w4, w3.alloc (.cells #[.slice none 0 0] 45) = w4 := ⟨_, rfl⟩
  have hgs : X.heap.size ≤ w3.heap.size := h3'.size
  rw [hw4] at kS h4
  have HW4 := Lib.hid hw4
  have H4 := Lib.hid (And.intro h4 (And.intro kS hgs))
  obtain ⟨k0, k1, k2⟩ := HP.out w4 h4
  have fS := frozen_of_row _ _ 0 _ _ kS
  clear h3' h4 kS hgs hw4
  go_wp2_with (first | rw [HW4.out] | fail)
  have hLs : lsE d cs rs = [] := by unfold lsE; rw [if_neg hk]
  have hE : EP d (.slice x1 cs.length c1) (.slice x2 rs.length c2) n none 0 w3.heap.size (lsE d cs rs) w w4 := by
    rw [hLs]
    exact ⟨⟨⟨⟨⟨H0.out.1.keep H4.out.1, H0.out.2.1.keep H4.out.1⟩, H0.out.2.2.1.keep H4.out.1⟩, H4.out.2.1⟩, World.ownsRow_nil _ _ _ _⟩, HW.out _ H4.out.1⟩
  have HE := Lib.hid hE
  clear hE k0 k1 k2
  have HW6 := Lib.hid (rfl : w4 = w4)
  obtain ⟨w6, hw6⟩ : ∃ w6, w4 = w6 := ⟨_, rfl⟩
  subst hw6
  obtain ⟨x, hx⟩ : ∃ x : Option Addr, none = x := ⟨_, rfl⟩
  obtain ⟨cap, hcap⟩ : ∃ cap : Nat, 0 = cap := ⟨_, rfl⟩
  rw [hx, hcap] at HE
  clear hx hcap
  clear hLs
  generalize lsE d cs rs = L at HE HC
  obtain ⟨k0, k1, k2⟩ : w4.cell? ⟨w.heap.size, 0, none⟩ = some (.int .u64 d) ∧ w4.cell? ⟨w.heap.size, 1, none⟩ = some (.slice x1 cs.length c1) ∧ w4.cell? ⟨w.heap.size, 2, none⟩ = some (.slice x2 rs.length c2) := by
    have q := HE.out.1.1.1.1.1
    exact ⟨cell_of_row _ _ 0 _ _ _ q, cell_of_row _ _ 1 _ _ _ q, cell_of_row _ _ 2 _ _ _ q⟩

  have hq := lines_fn d _ _ cs rs _ HD.out (HA.out _ HE.out.2).1 (HA.out _ HE.out.2).2.1 (HA.out _ HE.out.2).2.2.1 (HA.out _ HE.out.2).2.2.2
  refine hq.mono ?_
  clear hq
  rintro e w7 ⟨S, rfl, hS, hSl, h7⟩
  have HE7 := Lib.hid (And.intro (HE.out.new h7) (And.intro hS hSl))
  have hgs : w3.heap.size < S := Nat.lt_of_lt_of_le HE.out.1.1.2.lt hSl
  have hgw : w.heap.size + 3 ≤ w3.heap.size := by have := H4.out.2.2; have := H0.out.2.2.2.2; omega
  clear k0 k1 k2 HE hS hSl h7 H4 HP HX
  generalize w3.heap.size = gs at HE7 hgs hgw ⊢
  generalize hTE : (⟨(txE d cs rs).toArray⟩ : ByteArray) = TE at HE7 HC ⊢
  go_wp2_with fail
  refine (num_any9 _ _).mono ?_
  rintro e V ⟨rfl, rfl⟩
  go_wp2_with fail
  have kT := Blk.new w7 3 #[.int .i64 0]
  have hE7 := HE7.out.1.alloc (.cells #[.int .i64 0] 3)
  have kA := HE7.out.2.1.alloc (.cells #[.int .i64 0] 3)
  have hgT : S < w7.heap.size := HE7.out.2.1.lt
  clear HE7 hnil fS
  obtain ⟨W0, hW0⟩ : ∃ W0, w7.alloc (.cells #[.int .i64 0] 3) = W0 := ⟨_, rfl⟩
  rw [hW0] at kT hE7 kA ⊢
  clear hW0
  generalize w7.heap.size = gT at kT hgT ⊢
  have cT := cell_of_row W0 _ 0 _ _ _ kT
  have HY := Lib.hid (And.intro kA (And.intro hE7 (And.intro kT (And.intro hgs (And.intro hgT hgw)))))
  clear kA hE7 kT hgs hgT hgw
  refine wp_loop_rounds 3 ?_
  rw [rounds_succ]
  go_wp2_with fail
  obtain ⟨kA, hef, kT, hgs, hgl, hgw⟩ := HY.out
  have hef1 := hef.alloc (.cells #[.int .i64 0] 3)
  have kA1 := kA.alloc (.cells #[.int .i64 0] 3)
  have kT1 := kT.alloc (.cells #[.int .i64 0] 3)
  have kK1 := Blk.new W0 3 #[.int .i64 0]
  have hgK : gT < W0.heap.size := kT.lt
  have hAB : Abide W0.heap.size (fun (_ : Unit) X => (EP d (.slice x1 cs.length c1) (.slice x2 rs.length c2) n x cap gs L w X ∧ Blk X S 9 #[.string TE]) ∧ Blk X gT 3 #[.int .i64 0]) := ((EP.abide hef (Nat.le_refl _)).and (Abide.blk kA.lt _ (fun _ => #[Value.string TE]))).and (Abide.blk kT.lt _ (fun _ => #[Value.int .i64 0]))
  clear hef kA kT HY cT
  obtain ⟨V, hV⟩ : ∃ V, W0.alloc (.cells #[.int .i64 0] 3) = V := ⟨_, rfl⟩
  rw [hV] at hef1 kA1 kT1 kK1 ⊢
  clear hV
  generalize W0.heap.size = gK at kK1 hgK hAB ⊢
  have HV := Lib.hid (And.intro hef1 (And.intro kA1 (And.intro kT1 (And.intro kK1 (And.intro hAB (show w.heap.size ≤ gK by omega))))))
  clear hef1 kA1 kT1 kK1 hAB hgl hgw hgs hgK
  refine tx_join (G := ?G) (F := (fun D X => ((EP d (.slice x1 cs.length c1) (.slice x2 rs.length c2) n x cap gs L w X ∧ Blk X S 9 #[.string TE]) ∧ Blk X gT 3 #[.int .i64 0]) ∧ V.heap.size ≤ D ∧ X.heap[D]? = some (.deferred (some [])))) (FR := fun D q v1 v2 v3 => { tmps := #[Value.agg #[Value.int IntKind.u64 (d : Nat), Value.slice x1 cs.length c1, Value.slice x2 rs.length c2], Value.int IntKind.i64 n, Value.pointer (some { block := w.heap.size, off := 0 }), Value.pointer (some { block := w.heap.size + 1, off := 0 }), Value.pointer (some { block := w.heap.size + 1 + 1, off := 0 }), Value.string TE, Value.int IntKind.i64 ((chk d cs rs : Nat) : Int), Value.string TE, Value.int IntKind.i64 ((chk d cs rs : Nat) : Int), Value.pointer (some { block := gs, off := 0 }), Value.func (Fn.func 55) #[] #[Value.pointer (some { block := S, off := 0 })], Value.pointer (some { block := q, off := 0 }), Value.pointer (some { block := gK, off := 0 }), undef, undef, undef, undef, Value.agg #[Value.int IntKind.u64 (d : Nat), Value.slice x1 cs.length c1, Value.slice x2 rs.length c2], Value.bool true, Value.bool false, undef, Value.tuple #[Value.string TE, Value.int IntKind.i64 ((chk d cs rs : Nat) : Int)], Value.agg #[Value.int IntKind.u64 (d : Nat), Value.slice x1 cs.length c1, Value.slice x2 rs.length c2], Value.tuple #[Value.string TE, Value.int IntKind.i64 ((chk d cs rs : Nat) : Int)], Value.string TE, Value.int IntKind.i64 ((chk d cs rs : Nat) : Int), Value.tuple #[Value.string TE, Value.int IntKind.i64 ((chk d cs rs : Nat) : Int)], Value.agg #[Value.int IntKind.u64 (d : Nat), Value.slice x1 cs.length c1, Value.slice x2 rs.length c2], Value.tuple #[Value.string TE, Value.int IntKind.i64 ((chk d cs rs : Nat) : Int)], Value.string TE, Value.int IntKind.i64 ((chk d cs rs : Nat) : Int), Value.int IntKind.i64 ((chk d cs rs : Nat) : Int), Value.bool false, undef, undef, Value.agg #[Value.int IntKind.u64 (d : Nat), Value.slice x1 cs.length c1, Value.slice x2 rs.length c2], Value.func (Fn.func 55) #[] #[Value.pointer (some { block := S, off := 0 })], Value.string TE, Value.string TE, Value.bool false, Value.bool false, Value.int IntKind.i64 ((chk d cs rs : Nat) : Int), Value.int IntKind.i64 ((chk d cs rs : Nat) : Int), Value.int IntKind.i64 ((chk d cs rs : Nat) : Int), Value.bool false, Value.bool false, Value.bool false, Value.func (Fn.func 55) #[] #[Value.pointer (some { block := S, off := 0 })], Value.bool false, Value.bool false, Value.int IntKind.i64 0, Value.bool true, Value.int IntKind.i64 0, Value.int IntKind.i64 1, Value.func (Fn.func 55) #[] #[Value.pointer (some { block := S, off := 0 })], undef, undef, undef, undef, undef, undef, undef, undef, undef, undef, undef, undef, undef, undef, undef, undef, undef, undef, undef, undef, undef, undef, undef, undef, undef, undef, undef, undef, Value.int IntKind.i64 0, Value.bool true, Value.bool true, v1, Value.slice x L.length cap, Value.int IntKind.i64 ↑L.length, Value.int IntKind.i64 n, v2, v3, Value.bool false, Value.bool false, Value.bool false, Value.int IntKind.i64 0, Value.bool false, Value.bool false, undef, undef, undef, undef, Value.bool false, Value.bool false, Value.int IntKind.i64 0, undef, undef, undef, undef, undef, undef, undef, undef, undef, undef, undef, undef, undef, undef, undef, undef, undef, undef, undef, undef, undef, undef, undef, undef], defers := [{ target := Target.collected D, args := #[] }] }) (WX := fun X => X.alloc (.cells #[.int .i64 1] 3)) (fun (keep : Kept1 _) => ?ways) ?rest
  case ways =>
    refine (wpIn_wide (n := 20)).1 ?_
    refine wpIn_rangeQ (n := 20) (by omega) (gf := 55) (lb := #[.pointer (some ⟨S, 0, none⟩)]) rfl (enters_of Tryz.func55 (by kernel_rfl) rfl)
      (lines_seqQ (20 - 1) (by omega) S w.heap.size TE (baL L) V HC.out.1 HC.out.2.1 HC.out.2.2 HV.out.1.2.size HV.out.2.1) (Below.refl _ _) HV.out.1.2.size (fun k h => h.elim) (fun _ => rfl)
      (fun pre X => (((EP d (.slice x1 cs.length c1) (.slice x2 rs.length c2) n x cap gs L w X ∧ Blk X S 9 #[.string TE]) ∧ Blk X gT 3 #[.int .i64 0]) ∧ Blk X gK 3 #[.int .i64 (pre.length : Nat)]) ∧ (pre.length = 0 ∨ (pre.length : Int) < n))
      (fun c pre X => (((EP d (.slice x1 cs.length c1) (.slice x2 rs.length c2) n x cap gs L w X ∧ Blk X S 9 #[.string TE]) ∧ Blk X gT 3 #[.int .i64 0]) ∧ Blk X gK 3 #[.int .i64 (pre.length : Nat)]) ∧ (c = .exit 2 ∧ n ≤ pre.length ∧ (pre.length = 1 ∨ (pre.length : Int) - 1 < n) ∧ 1 ≤ pre.length ∧ pre.length ≤ L.length))
      (Abide.stay (((((EP.abide HV.out.1 (Nat.le_refl _)).and (Abide.blk HV.out.2.1.lt _ (fun _ => #[Value.string TE]))).and (Abide.blk HV.out.2.2.1.lt _ (fun _ => #[Value.int .i64 0]))).and (Abide.blk HV.out.2.2.2.1.lt _ (fun pre => #[Value.int .i64 ((List.length pre : Nat) : Int)]))).and (fun _ _ _ _ hs _ _ => hs)) hq_ge)
      (fun _ => Abide.stay (((((EP.abide HV.out.1 (Nat.le_refl _)).and (Abide.blk HV.out.2.1.lt _ (fun _ => #[Value.string TE]))).and (Abide.blk HV.out.2.2.1.lt _ (fun _ => #[Value.int .i64 0]))).and (Abide.blk HV.out.2.2.2.1.lt _ (fun pre => #[Value.int .i64 ((List.length pre : Nat) : Int)]))).and (fun _ _ _ _ hs _ _ => hs)) hq_ge)
      ⟨⟨⟨⟨HV.out.1, HV.out.2.1⟩, HV.out.2.2.1⟩, HV.out.2.2.2.1⟩, .inl rfl⟩
      (fun y a' _ => a' = { tmps := #[Value.agg #[Value.int IntKind.u64 (d : Nat), Value.slice x1 cs.length c1, Value.slice x2 rs.length c2], Value.int IntKind.i64 n, Value.pointer (some { block := w.heap.size, off := 0 }), Value.pointer (some { block := w.heap.size + 1, off := 0 }), Value.pointer (some { block := w.heap.size + 1 + 1, off := 0 }), Value.string TE, Value.int IntKind.i64 ((chk d cs rs : Nat) : Int), Value.string TE, Value.int IntKind.i64 ((chk d cs rs : Nat) : Int), Value.pointer (some { block := gs, off := 0 }), Value.func (Fn.func 55) #[] #[Value.pointer (some { block := S, off := 0 })], Value.pointer (some { block := gT, off := 0 }), Value.pointer (some { block := gK, off := 0 }), Value.int IntKind.i64 (y.2 : Nat), Value.string y.1, undef, undef, Value.agg #[Value.int IntKind.u64 (d : Nat), Value.slice x1 cs.length c1, Value.slice x2 rs.length c2], Value.bool true, Value.bool false, undef, Value.tuple #[Value.string TE, Value.int IntKind.i64 ((chk d cs rs : Nat) : Int)], Value.agg #[Value.int IntKind.u64 (d : Nat), Value.slice x1 cs.length c1, Value.slice x2 rs.length c2], Value.tuple #[Value.string TE, Value.int IntKind.i64 ((chk d cs rs : Nat) : Int)], Value.string TE, Value.int IntKind.i64 ((chk d cs rs : Nat) : Int), Value.tuple #[Value.string TE, Value.int IntKind.i64 ((chk d cs rs : Nat) : Int)], Value.agg #[Value.int IntKind.u64 (d : Nat), Value.slice x1 cs.length c1, Value.slice x2 rs.length c2], Value.tuple #[Value.string TE, Value.int IntKind.i64 ((chk d cs rs : Nat) : Int)], Value.string TE, Value.int IntKind.i64 ((chk d cs rs : Nat) : Int), Value.int IntKind.i64 ((chk d cs rs : Nat) : Int), Value.bool false, undef, undef, Value.agg #[Value.int IntKind.u64 (d : Nat), Value.slice x1 cs.length c1, Value.slice x2 rs.length c2], Value.func (Fn.func 55) #[] #[Value.pointer (some { block := S, off := 0 })], Value.string TE, Value.string TE, Value.bool false, Value.bool false, Value.int IntKind.i64 ((chk d cs rs : Nat) : Int), Value.int IntKind.i64 ((chk d cs rs : Nat) : Int), Value.int IntKind.i64 ((chk d cs rs : Nat) : Int), Value.bool false, Value.bool false, Value.bool false, Value.func (Fn.func 55) #[] #[Value.pointer (some { block := S, off := 0 })], Value.bool false, Value.bool false, Value.int IntKind.i64 0, Value.bool true, undef, undef, Value.func (Fn.func 55) #[] #[Value.pointer (some { block := S, off := 0 })], Value.int IntKind.i64 (y.2 : Nat), Value.string y.1, undef, undef, undef, undef, undef, undef, undef, undef, undef, undef, undef, undef, undef, undef, undef, undef, undef, undef, undef, undef, undef, undef, undef, undef, undef, undef, undef, undef, undef, undef, undef, undef, undef, undef, undef, undef, undef, undef, undef, undef, undef, undef, undef, undef, undef, undef, undef, undef, undef, undef, undef, undef, undef, undef, undef, undef, undef, undef, undef, undef, undef, undef, undef, undef, undef, undef, undef, undef, undef, undef, undef, undef], defers := [] })
      (fun y a' _ X Y row hs hg hr => hs)
      ?assign ?body ?done ?stop
    case assign =>
      rintro l2 pre y X K hgd hXs hi hK
      have HI := Lib.hid hi
      have HK := Lib.hid hK
      clear hi hK
      gi_wp2_with fail
      exact HK.out _ _ (KeptM.refl _ _) (Below.refl _ _) HI.out rfl
    case body =>
      rintro l2 pre y a' X hl2 hgd hlo ⟨⟨⟨⟨hef, kA⟩, kT⟩, kK⟩, hd⟩ rfl
      obtain ⟨b, hb, rfl⟩ := next_ln hgd
      obtain ⟨g, hx, hgx, hcx⟩ := hef.want hb
      subst hx
      have cS := cell_of_row X _ 0 _ _ _ hef.1.1.2
      have cN := cell_of_row X _ 0 _ _ _ hef.1.1.1.1.2
      have cT := cell_of_row X _ 0 _ _ _ kT
      have cK := cell_of_row X _ 0 _ _ _ kK
      have fK := frozen_of_row X _ 0 _ _ kK
      have hix : pre.length < L.length := (List.getElem?_eq_some_iff.1 hb).1
      have hLm : L.length ≤ 9223372036854775807 := by obtain ⟨_, _, e, h, _⟩ := hef.1.2.at; exact h
      have hw1 : IntKind.i64.wrap ((pre.length : Int) + 1) = ((pre.length + 1 : Nat) : Int) := by rw [show ((pre.length : Int) + 1) = ((pre.length + 1 : Nat) : Int) by omega]; exact IntWalk.i64_in _ (by omega)
      have hnge : ¬ L.length ≤ pre.length := by omega
      have hg := grownBy_setCell' X gK (.int .i64 ((pre.length : Int) + 1))
      have hef2 := HV.out.2.2.2.2.1 () X (X.setCell ⟨gK, 0, none⟩ (.int .i64 ((pre.length : Int) + 1))) (some gK) ⟨⟨hef, kA⟩, kT⟩ hg (fun r e => by cases e; exact Nat.le_refl _)
      have kK2 : Blk (X.setCell ⟨gK, 0, none⟩ (.int .i64 ((pre.length : Int) + 1))) gK 3 #[.int .i64 ((pre.length : Int) + 1)] := heap_setCell_same X gK 0 _ _ (.int .i64 ((pre.length : Int) + 1)) kK
      have cT2 := cell_of_row _ _ 0 _ _ _ hef2.2
      have cN2 := cell_of_row _ _ 0 _ _ _ hef2.1.1.1.1.1.1.2
      have cK2 := cell_of_row _ _ 0 _ _ _ kK2
      have hKM : KeptM (fun k => Hq (fun _ => False) 11 (V.heap.size + 2) k ∨ k = V.heap.size ∨ k = V.heap.size + 1) X (X.setCell ⟨gK, 0, none⟩ (.int .i64 ((pre.length : Int) + 1))) := KeptM.grown hg (fun r e h => by cases e; have h1 := hq_ge _ h; have h2 := HV.out.2.2.2.1.lt; omega)
      have HX1 := Lib.hid (And.intro hef2 (And.intro kK2 (And.intro hd (And.intro hKM (And.intro HV.out.2.2.2.2.2 hix)))))
      have hl : (((pre ++ [((⟨b.toArray⟩ : ByteArray), pre.length)]).length : Nat) : Int) = (pre.length : Int) + 1 := by simp
      have HL1 := Lib.hid hl
      clear hl hef2 kK2 hef kA kT kK hlo hgd hb hLm hg hKM hd
      by_cases hcn : n ≤ (pre.length : Int) + 1
      · have hcb : decide (n ≤ (pre.length : Int) + 1) = true := decide_eq_true hcn
        gi_wp2_with fail
        obtain ⟨h3, hk3, hd, hlV, hsK, hix⟩ := HX1.out
        refine ⟨hlV, ⟨h3, by rw [HL1.out]; exact hk3⟩, rfl, by rw [HL1.out]; exact hcn, ?_, by simp, by simp; omega⟩
        rcases hd with hd | hd
        · exact .inl (by simp [List.length_eq_zero_iff.1 hd])
        · exact .inr (by rw [HL1.out]; omega)
      · have hcb : decide (n ≤ (pre.length : Int) + 1) = false := decide_eq_false hcn
        gi_wp2_with fail
        obtain ⟨h3, hk3, hd, hlV, hsK, hix⟩ := HX1.out
        exact ⟨hlV, (Below.refl _ X).setCell (p := ⟨gK, 0, none⟩) hsK _, ⟨h3, by rw [HL1.out]; exact hk3⟩, .inr (by rw [HL1.out]; omega)⟩
    case done =>
      rintro D xs X hD hxs ⟨⟨⟨⟨hef, kA⟩, kT⟩, kK⟩, hd⟩ hDD
      have hxl : xs.length = L.length := by rw [hxs, baL_len]
      rw [hxl] at kK hd
      have hmin := tx_done _ n hd
      have cS := cell_of_row X _ 0 _ _ _ hef.1.1.2
      have cN := cell_of_row X _ 0 _ _ _ hef.1.1.1.1.2
      have cT := cell_of_row X _ 0 _ _ _ kT
      have cK := cell_of_row X _ 0 _ _ _ kK
      have HF := Lib.hid (And.intro (And.intro (And.intro hef kA) kT) (And.intro (Nat.le_of_eq hD.symm) hDD))
      clear hef kA kT kK hDD hD hd hxs hxl
      go_wp2_with fail
      all_goals exact keep.1 D X _ _ _ HF.out
    case stop =>
      rintro D c pre X hD _ ⟨⟨⟨⟨hef, kA⟩, kT⟩, kK⟩, rfl, hn1, hn2, hn3, hn4⟩ hDD
      have hmin := tx_left L.length pre.length n hn3 hn4 hn1 hn2
      have cS := cell_of_row X _ 0 _ _ _ hef.1.1.2
      have cN := cell_of_row X _ 0 _ _ _ hef.1.1.1.1.2
      have cT := cell_of_row X _ 0 _ _ _ kT
      have cK := cell_of_row X _ 0 _ _ _ kK
      have HF := Lib.hid (And.intro (And.intro (And.intro hef kA) kT) (And.intro (Nat.le_of_eq hD.symm) hDD))
      clear hef kA kT kK hDD hD hn1 hn2 hn3 hn4
      refine (wpIn_wide (n := 20)).2 ?_
      go_wp2_with fail
      all_goals exact keep.1 D X _ _ _ HF.out
  case rest =>
    rintro D X v1 v2 v3 ⟨⟨⟨hef, kA⟩, kT⟩, hD, hDD⟩
    have hDl : D < X.heap.size := (Array.getElem?_eq_some_iff.1 hDD).1
    have hDD2 : (X.alloc (.cells #[.int .i64 1] 3)).heap[D]? = some (.deferred (some [])) := (Below.heap_alloc X _ D hDl).trans hDD
    have kT2 := Blk.new X 3 #[.int .i64 1]
    have hef2 := hef.alloc (.cells #[.int .i64 1] 3)
    have kA2 := kA.alloc (.cells #[.int .i64 1] 3)
    have hBX := hef.2
    have hwV : w.heap.size + 2 < V.heap.size := by have := HV.out.1.1.1.1.2.lt; omega
    have hwD : w.heap.size + 2 < D := Nat.lt_of_lt_of_le hwV hD
    have HWD := Lib.hid hwD
    clear hef kA kT hDD HV hwV hwD hD
    obtain ⟨W2, hW2⟩ : ∃ W2, X.alloc (.cells #[.int .i64 1] 3) = W2 := ⟨_, rfl⟩
    dsimp only
    rw [hW2] at hDD2 kT2 hef2 kA2 ⊢
    clear hW2
    have hgX : w.heap.size ≤ X.heap.size := hBX.size
    generalize X.heap.size = gT at kT2 hDl hgX ⊢
    clear hBX
    have cT := cell_of_row W2 _ 0 _ _ _ kT2
    have HY := Lib.hid (And.intro hDD2 (And.intro kT2 (And.intro hef2 (And.intro kA2 (And.intro hDl hgX)))))
    clear hDD2 kT2 hef2 kA2 hDl hgX
    rw [rounds_succ]
    go_wp2_with fail
    obtain ⟨hDD, kT, hef, kA, hDl, hgX⟩ := HY.out
    have hgK : gT < W2.heap.size := kT.lt
    have hlD : D < W2.heap.size := (Array.getElem?_eq_some_iff.1 hDD).1
    have hAB : Abide W2.heap.size (fun (_ : Unit) X => ((EP d (.slice x1 cs.length c1) (.slice x2 rs.length c2) n x cap gs L w X ∧ Blk X S 9 #[.string TE]) ∧ Blk X gT 3 #[.int .i64 1]) ∧ X.heap[D]? = some (.deferred (some []))) := (((EP.abide hef (Nat.le_refl _)).and (Abide.blk kA.lt _ (fun _ => #[Value.string TE]))).and (Abide.blk kT.lt _ (fun _ => #[Value.int .i64 1]))).and (Abide.heap hlD (fun _ => .deferred (some [])))
    have hef1 := hef.alloc (.cells #[.int .i64 0] 3)
    have kA1 := kA.alloc (.cells #[.int .i64 0] 3)
    have kT1 := kT.alloc (.cells #[.int .i64 0] 3)
    have hD1 : (W2.alloc (.cells #[.int .i64 0] 3)).heap[D]? = some (.deferred (some [])) := (Below.heap_alloc W2 _ D hlD).trans hDD
    have kK1 := Blk.new W2 3 #[.int .i64 0]
    clear hef kA kT HY cT hDD
    obtain ⟨V2, hV⟩ : ∃ V2, W2.alloc (.cells #[.int .i64 0] 3) = V2 := ⟨_, rfl⟩
    rw [hV] at hef1 kA1 kT1 kK1 hD1 ⊢
    clear hV
    generalize W2.heap.size = gK2 at kK1 hgK hAB hlD ⊢
    have hlV2 : D < V2.heap.size := (Array.getElem?_eq_some_iff.1 hD1).1
    have hwK : w.heap.size ≤ gK2 := by omega
    refine (wpIn_wide (n := 20)).1 ?_
    refine wpIn_rangeQ (n := 20) (by omega) (gf := 55) (lb := #[.pointer (some ⟨S, 0, none⟩)]) rfl (enters_of Tryz.func55 (by kernel_rfl) rfl)
      (lines_seqQ (20 - 1) (by omega) S w.heap.size TE (baL L) V2 HC.out.1 HC.out.2.1 HC.out.2.2 hef1.2.size kA1) (Below.refl _ _) hef1.2.size (fun k h => h.elim) (fun _ => rfl)
      (fun pre X => (((EP d (.slice x1 cs.length c1) (.slice x2 rs.length c2) n x cap gs L w X ∧ Blk X S 9 #[.string TE]) ∧ Blk X gT 3 #[.int .i64 1]) ∧ X.heap[D]? = some (.deferred (some []))) ∧ Blk X gK2 3 #[.int .i64 (pre.length : Nat)])
      (fun _ _ _ => False)
      (Abide.stay (((((EP.abide hef1 (Nat.le_refl _)).and (Abide.blk kA1.lt _ (fun _ => #[Value.string TE]))).and (Abide.blk kT1.lt _ (fun _ => #[Value.int .i64 1]))).and (Abide.heap hlV2 (fun _ => .deferred (some [])))).and (Abide.blk kK1.lt _ (fun pre => #[Value.int .i64 ((List.length pre : Nat) : Int)]))) hq_ge)
      (fun _ _ _ _ _ hs _ _ => hs)
      ⟨⟨⟨⟨hef1, kA1⟩, kT1⟩, hD1⟩, kK1⟩
      (fun y a' _ => a' = { tmps := #[Value.agg #[Value.int IntKind.u64 (d : Nat), Value.slice x1 cs.length c1, Value.slice x2 rs.length c2], Value.int IntKind.i64 n, Value.pointer (some { block := w.heap.size, off := 0 }), Value.pointer (some { block := w.heap.size + 1, off := 0 }), Value.pointer (some { block := w.heap.size + 1 + 1, off := 0 }), Value.string TE, Value.int IntKind.i64 ((chk d cs rs : Nat) : Int), Value.string TE, Value.int IntKind.i64 ((chk d cs rs : Nat) : Int), Value.pointer (some { block := gs, off := 0 }), Value.func (Fn.func 55) #[] #[Value.pointer (some { block := S, off := 0 })], Value.pointer (some { block := gT, off := 0 }), Value.pointer (some { block := gK2, off := 0 }), Value.int IntKind.i64 (y.2 : Nat), Value.string y.1, undef, undef, Value.agg #[Value.int IntKind.u64 (d : Nat), Value.slice x1 cs.length c1, Value.slice x2 rs.length c2], Value.bool true, Value.bool false, undef, Value.tuple #[Value.string TE, Value.int IntKind.i64 ((chk d cs rs : Nat) : Int)], Value.agg #[Value.int IntKind.u64 (d : Nat), Value.slice x1 cs.length c1, Value.slice x2 rs.length c2], Value.tuple #[Value.string TE, Value.int IntKind.i64 ((chk d cs rs : Nat) : Int)], Value.string TE, Value.int IntKind.i64 ((chk d cs rs : Nat) : Int), Value.tuple #[Value.string TE, Value.int IntKind.i64 ((chk d cs rs : Nat) : Int)], Value.agg #[Value.int IntKind.u64 (d : Nat), Value.slice x1 cs.length c1, Value.slice x2 rs.length c2], Value.tuple #[Value.string TE, Value.int IntKind.i64 ((chk d cs rs : Nat) : Int)], Value.string TE, Value.int IntKind.i64 ((chk d cs rs : Nat) : Int), Value.int IntKind.i64 ((chk d cs rs : Nat) : Int), Value.bool false, undef, undef, Value.agg #[Value.int IntKind.u64 (d : Nat), Value.slice x1 cs.length c1, Value.slice x2 rs.length c2], Value.func (Fn.func 55) #[] #[Value.pointer (some { block := S, off := 0 })], Value.string TE, Value.string TE, Value.bool false, Value.bool false, Value.int IntKind.i64 ((chk d cs rs : Nat) : Int), Value.int IntKind.i64 ((chk d cs rs : Nat) : Int), Value.int IntKind.i64 ((chk d cs rs : Nat) : Int), Value.bool false, Value.bool false, Value.bool false, Value.func (Fn.func 55) #[] #[Value.pointer (some { block := S, off := 0 })], Value.bool false, Value.bool false, Value.int IntKind.i64 1, Value.bool true, Value.int IntKind.i64 0, Value.int IntKind.i64 1, Value.func (Fn.func 55) #[] #[Value.pointer (some { block := S, off := 0 })], Value.int IntKind.i64 (y.2 : Nat), Value.string y.1, undef, undef, undef, undef, undef, undef, undef, undef, undef, undef, undef, undef, undef, undef, undef, undef, undef, undef, undef, undef, undef, undef, undef, undef, undef, undef, Value.int IntKind.i64 0, Value.bool true, Value.bool true, v1, Value.slice x L.length cap, Value.int IntKind.i64 ↑L.length, Value.int IntKind.i64 n, v2, v3, Value.bool false, Value.bool false, Value.bool false, Value.int IntKind.i64 0, Value.bool false, Value.bool false, undef, undef, undef, undef, Value.bool false, Value.bool false, Value.int IntKind.i64 0, undef, undef, undef, undef, undef, undef, undef, undef, undef, undef, undef, undef, undef, undef, undef, undef, undef, undef, undef, undef, undef, undef, undef, undef], defers := [] })
      (fun y a' _ X Y row hs hg hr => hs)
      ?assign ?body ?done ?stop
    case stop =>
      rintro D2 c pre X2 hD2 _ h _
      exact h.elim
    case assign =>
      rintro l2 pre y X K hgd hXs hi hK
      have HI := Lib.hid hi
      have HK := Lib.hid hK
      clear hi hK hef1 kA1 kT1 kK1 hAB hgK hlD hD1
      gi_wp2_with fail
      exact HK.out _ _ (KeptM.refl _ _) (Below.refl _ _) HI.out rfl
    case body =>
      rintro l2 pre y a' X hl2 hgd hlo ⟨⟨⟨⟨hef, kA⟩, kT⟩, hDD⟩, kK⟩ rfl
      obtain ⟨b, hb, rfl⟩ := next_ln hgd
      obtain ⟨g, hx, hgx, hcx⟩ := hef.want hb
      subst hx
      have cS := cell_of_row X _ 0 _ _ _ hef.1.1.2
      have cT := cell_of_row X _ 0 _ _ _ kT
      have cK := cell_of_row X _ 0 _ _ _ kK
      have fK := frozen_of_row X _ 0 _ _ kK
      have hix : pre.length < L.length := (List.getElem?_eq_some_iff.1 hb).1
      have hLm : L.length ≤ 9223372036854775807 := by obtain ⟨_, _, e, h, _⟩ := hef.1.2.at; exact h
      have hw1 : IntKind.i64.wrap ((pre.length : Int) + 1) = ((pre.length + 1 : Nat) : Int) := by rw [show ((pre.length : Int) + 1) = ((pre.length + 1 : Nat) : Int) by omega]; exact IntWalk.i64_in _ (by omega)
      have hnge : ¬ L.length ≤ pre.length := by omega
      have hg := grownBy_setCell' X gK2 (.int .i64 ((pre.length : Int) + 1))
      have hef2 := hAB () X (X.setCell ⟨gK2, 0, none⟩ (.int .i64 ((pre.length : Int) + 1))) (some gK2) ⟨⟨⟨hef, kA⟩, kT⟩, hDD⟩ hg (fun r e => by cases e; exact Nat.le_refl _)
      have kK2 : Blk (X.setCell ⟨gK2, 0, none⟩ (.int .i64 ((pre.length : Int) + 1))) gK2 3 #[.int .i64 ((pre.length : Int) + 1)] := heap_setCell_same X gK2 0 _ _ (.int .i64 ((pre.length : Int) + 1)) kK
      have cT2 := cell_of_row _ _ 0 _ _ _ hef2.1.2
      have cK2 := cell_of_row _ _ 0 _ _ _ kK2
      have hKM : KeptM (fun k => Hq (fun _ => False) 11 (V2.heap.size + 2) k ∨ k = V2.heap.size ∨ k = V2.heap.size + 1) X (X.setCell ⟨gK2, 0, none⟩ (.int .i64 ((pre.length : Int) + 1))) := KeptM.grown hg (fun r e h => by cases e; have h1 := hq_ge _ h; have h2 := kK1.lt; omega)
      have hl : (((pre ++ [((⟨b.toArray⟩ : ByteArray), pre.length)]).length : Nat) : Int) = (pre.length : Int) + 1 := by simp
      have HL1 := Lib.hid hl
      have HX1 := Lib.hid (And.intro hef2 (And.intro kK2 (And.intro hKM hwK)))
      clear hl hef2 kK2 hef kA kT kK hDD hef1 kA1 kT1 kK1 hAB hgK hlo hlD hD1 hlV2 hwK hgd hb hLm hg hKM
      gi_wp2_with fail
      obtain ⟨h3, hk3, hlV, hsK⟩ := HX1.out
      exact ⟨hlV, (Below.refl _ X).setCell (p := ⟨gK2, 0, none⟩) hsK _, h3, by rw [HL1.out]; exact hk3⟩
    case done =>
      rintro D2 xs X2 hD2 hxs ⟨⟨⟨⟨hef, kA⟩, kT⟩, hDD⟩, kK⟩ hDD2
      have hxl : xs.length = L.length := by rw [hxs, baL_len]
      rw [hxl] at kK
      have cS := cell_of_row X2 _ 0 _ _ _ hef.1.1.2
      have cT := cell_of_row X2 _ 0 _ _ _ kT
      have cK := cell_of_row X2 _ 0 _ _ _ kK
      have hne : D < D2 := by rw [hD2]; exact hlV2
      have HZ := Lib.hid (And.intro hef (And.intro hDD (And.intro hDD2 hne)))
      clear hef kA kT kK hDD hDD2 hef1 kA1 kT1 kK1 hAB hgK hlD hD1 hlV2 hwK hD2 hne hxs hxl
      go_wp2_with fail
      obtain ⟨hef, hDD, hDD2, hne⟩ := HZ.out
      have kT2 := Blk.new X2 3 #[.int .i64 2]
      have hef2 := hef.alloc (.cells #[.int .i64 2] 3)
      have hD1 := (Below.heap_alloc X2 (.cells #[.int .i64 2] 3) D (Array.getElem?_eq_some_iff.1 hDD).1).trans hDD
      have hD2 := (Below.heap_alloc X2 (.cells #[.int .i64 2] 3) D2 (Array.getElem?_eq_some_iff.1 hDD2).1).trans hDD2
      clear hef hDD hDD2 cS cT cK
      obtain ⟨X3, hX3⟩ : ∃ X3, X2.alloc (.cells #[.int .i64 2] 3) = X3 := ⟨_, rfl⟩
      rw [hX3] at kT2 hef2 hD1 hD2 ⊢
      clear hX3
      generalize X2.heap.size = gU at kT2 ⊢
      have cT := cell_of_row X3 _ 0 _ _ _ kT2
      have HE := Lib.hid (And.intro hef2 (And.intro hD1 (And.intro hD2 hne)))
      clear kT2 hef2 hD1 hD2 hne HZ
      rw [rounds_succ]
      go_wp2_with fail
      obtain ⟨hef, hD1, hD2, hne⟩ := HE.out
      refine (pworks_any _ (HA.out _ hef.2).2.2.1).mono ?_
      rintro e X8 ⟨rfl, h8⟩
      have hef8 := hef.new h8
      have hE1 := (h8.block D (Array.getElem?_eq_some_iff.1 hD1).1).trans hD1
      have hE2 := (h8.block D2 (Array.getElem?_eq_some_iff.1 hD2).1).trans hD2
      have cR := cell_of_row X8 _ 0 _ _ _ hef8.1.1.1.2
      have fR := frozen_of_row X8 _ 0 _ _ hef8.1.1.1.2
      have HG := Lib.hid (And.intro hef8 (And.intro hE1 (And.intro hE2 hne)))
      clear hef hD1 hD2 hne h8 hef8 hE1 hE2 HE
      go_wp2
      obtain ⟨hef, hD9, hE9, hne⟩ := HG.out
      have hwD := HWD.out
      have bR9 := hef.1.1.1.2
      have hDY : (X8.setCell ⟨w.heap.size + 2, 0, none⟩ (.bool true)).heap[D]? = some (.deferred (some [])) := (Below.heap_setCell X8 ⟨w.heap.size + 2, 0, none⟩ _ D (by simp; omega)).trans hD9
      have hEY : (X8.setCell ⟨w.heap.size + 2, 0, none⟩ (.bool true)).heap[D2]? = some (.deferred (some [])) := (Below.heap_setCell X8 ⟨w.heap.size + 2, 0, none⟩ _ D2 (by simp; omega)).trans hE9
      have bY : Blk (X8.setCell ⟨w.heap.size + 2, 0, none⟩ (.bool true)) (w.heap.size + 2) 4 #[.bool true] := heap_setCell_same X8 _ 0 _ _ _ bR9
      have hBY : Below w.heap.size w (X8.setCell ⟨w.heap.size + 2, 0, none⟩ (.bool true)) := hef.2.setCell (p := ⟨w.heap.size + 2, 0, none⟩) (by simp) _
      obtain ⟨Y, hY⟩ : ∃ Y, X8.setCell ⟨w.heap.size + 2, 0, none⟩ (.bool true) = Y := ⟨_, rfl⟩
      have hY' : X8.setCell ⟨w.heap.size + 1 + 1, 0, none⟩ (.bool true) = Y := hY
      rw [hY] at hDY hEY bY hBY
      rw [hY']
      clear hY hY' hD9 hE9 bR9 cR fR hef HG
      have hD2' : (Y.putObj D2 (.deferred none)).heap[D]? = some (.deferred (some [])) := (World.putObj_heap_other (by omega)).trans hDY
      have bY2 : Blk (Y.putObj D2 (.deferred none)) (w.heap.size + 2) 4 #[.bool true] := bY.kept (grownBy_putObj' Y D2 _) (by intro e; cases e; omega)
      have bY3 : Blk ((Y.putObj D2 (.deferred none)).putObj D (.deferred none)) (w.heap.size + 2) 4 #[.bool true] := bY2.kept (grownBy_putObj' _ D _) (by intro e; cases e; omega)
      have q0 : ((Y.putObj D2 (.deferred none)).putObj D (.deferred none)).cell? ⟨w.heap.size + 1 + 1, 0, none⟩ = some (.bool true) := cell_of_row _ _ 0 _ _ _ bY3
      refine ⟨by simp, .inl ⟨_, _, rfl, run_takeDeferred hEY, ?_⟩⟩
      refine ⟨by simp, .inl ⟨_, _, rfl, run_takeDeferred hD2', ?_⟩⟩
      exact ⟨.bool true, by simp [results, Tryz.results4, go_sem, q0], rfl, (hBY.trans (below_put Y _ (by omega))).trans (below_put _ _ (by omega))⟩
end Go.Proofs.YtenepkgjdoddgaaGreatDoor

