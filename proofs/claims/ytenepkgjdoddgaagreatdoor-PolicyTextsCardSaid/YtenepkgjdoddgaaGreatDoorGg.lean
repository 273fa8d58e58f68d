/- label: Text. -/
import Derived.Test.YtenepkgjdoddgaaGreatDoorGf
namespace Go.Proofs.YtenepkgjdoddgaaGreatDoor
open Go.RowKit Go.Shelf
attribute [local go_sem] Oper.semAt_some
theorem top_bit {a l : Nat} (h0 : a ≠ 0) (h1 : a < 2 ^ l) (h2 : a = 0 ∧ l = 0 ∨ 2 ^ l ≤ 2 * a) : ∃ m, l = m + 1 ∧ a.testBit m = true ∧ ∀ x, m < x → a.testBit x = false := by
  have h3 := h2.resolve_left (fun h => h0 h.1)
  cases l with
  | zero => simp at h1; exact absurd h1 h0
  | succ m =>
    refine ⟨m, rfl, ?_, fun x hx => Nat.testBit_lt_two_pow (Nat.lt_of_lt_of_le h1 (Nat.pow_le_pow_right (by omega) hx))⟩
    rw [Nat.pow_succ] at h1 h3
    rw [Nat.testBit_eq_decide_div_mod_eq]
    have hp := Nat.two_pow_pos m
    have e : a / 2 ^ m = 1 := by
      refine Nat.div_eq_of_lt_le ?_ ?_ <;> omega
    rw [e]; rfl
theorem eb_top {a m : Nat} (hm : m < 64) (h : a.testBit m = true) (hx : ∀ x, m < x → a.testBit x = false) : eb a 64 = eb a m ++ [m] := by
  rw [← eb_hit a m h, show 64 = (m + 1) + (63 - m) by omega]
  exact eb_skip a (m + 1) _ (fun j h1 _ => hx j (by omega))

/-- What stands between two rounds of Text. -/
def TI (m b B2 : Nat) (w : World) (pre : List Nat) (X : World) : Prop :=
  ((∀ x ∈ pre, x ≠ m) ∧ Bu b B2 (jc pre) X ∧ pre.length ≤ 64) ∧ Blk X (b + 1) 3 #[.int .i64 (m : Nat)] ∧ Below b w X
theorem TI.stay {m b B2 : Nat} {w : World} (hb : b ≤ w.heap.size) (hB : B2 = b + 5) : StayM (fun k => False ∨ k = b + 3 ∨ k = b + 3 + 1) (TI m b B2 w) := fun pre X Y row h hg hr => by
  obtain ⟨⟨h1, h2, h5⟩, h3, h4⟩ := h
  have hne : ∀ r, row = some r → r = b + 3 ∨ r = b + 4 := fun r e => by rcases hr r e with h | h | h; exact h.elim; exact .inl h; exact .inr h
  exact ⟨⟨h1, h2.kept hg (fun r e => by rcases hne r e with h | h <;> omega), h5⟩, h3.kept hg (fun e => by rcases hne _ e.symm with h | h <;> omega), h4.grown hg (Nat.le_trans hb h4.size) (fun r e => by rcases hne r e with h | h <;> omega)⟩
/-- .. and where it has been left. -/
def TX (a b B2 : Nat) (w : World) (c : Code) (_ : List Nat) (X : World) : Prop := (c = .exit 0 ∧ Bu b B2 (txL a) X) ∧ Below b w X
theorem TX.stay {a b B2 : Nat} {w : World} {c : Code} (hb : b ≤ w.heap.size) (hB : B2 = b + 5) : StayM (fun k => False ∨ k = b + 3 ∨ k = b + 3 + 1) (TX a b B2 w c) := fun pre X Y row h hg hr => by
  obtain ⟨⟨h1, h2⟩, h4⟩ := h
  have hne : ∀ r, row = some r → r = b + 3 ∨ r = b + 4 := fun r e => by rcases hr r e with h | h | h; exact h.elim; exact .inl h; exact .inr h
  exact ⟨⟨h1, h2.kept hg (fun r e => by rcases hne r e with h | h <;> omega)⟩, h4.grown hg (Nat.le_trans hb h4.size) (fun r e => by rcases hne r e with h | h <;> omega)⟩
theorem KpB.keptM {b : Nat} {X Y : World} (h : KpB b (b + 5) X Y) : KeptM (fun k => False ∨ k = b + 3 ∨ k = b + 3 + 1) X Y :=
  ⟨h.1.size, fun i hi hx => h.2 i (by rcases hi with hi | hi | hi; exact hi.elim; omega; omega) (by rcases hi with hi | hi | hi; exact hi.elim; omega; omega) hx⟩

set_option maxRecDepth 100000 in
set_option maxHeartbeats 4000000 in
theorem text_zero (w : World) :
    Calls Tryz.prog 50 #[.int .u64 0] w fun e w' => e = .returned (.string ⟨(txL 0).toArray⟩) ∧ Below w.heap.size w w' := by
  refine (callsIn_wide (n := 20)).1 ?_
  refine callsIn_of_wp_marks Tryz.func50 rfl trivial ?_ rfl
  simp only [Tryz.ntmps50, List.size_toArray, List.length_cons, List.length_nil, Nat.reduceAdd, Nat.reduceSub, Array.replicate_succ, Array.replicate_zero, List.push_toArray, List.append_toArray, List.nil_append, List.cons_append]
  refine (wpIn_wide (n := 20)).2 ?_
  go_wp2_with fail
  refine wp_scope_straight ?_
  go_wp2_with fail
  exact ⟨.string ⟨(txL 0).toArray⟩, by simp [results, Tryz.results50, go_sem, txL_zero], rfl, Below.refl _ _⟩

set_option maxRecDepth 100000 in
set_option maxHeartbeats 4000000 in
theorem text_pos (a : Nat) (ha : a < 2 ^ 64) (h0 : a ≠ 0) (w : World) (hT : TZ w) :
    Calls Tryz.prog 50 #[.int .u64 (a : Nat)] w fun e w' => e = .returned (.string ⟨(txL a).toArray⟩) ∧ Below w.heap.size w w' := by
  have g0 : ((a : Int) == 0) = false := by simp; omega
  have HA := Lib.hid (And.intro ha h0)
  have HLX := Lib.hid (lenx_any a ha)
  have HT := Lib.hid hT
  clear ha h0 hT
  refine (callsIn_wide (n := 20)).1 ?_
  refine callsIn_of_wp_marks Tryz.func50 rfl trivial ?_ rfl
  simp only [Tryz.ntmps50, List.size_toArray, List.length_cons, List.length_nil, Nat.reduceAdd, Nat.reduceSub, Array.replicate_succ, Array.replicate_zero, List.push_toArray, List.append_toArray, List.nil_append, List.cons_append]
  refine (wpIn_wide (n := 20)).2 ?_
  go_wp2_with fail
  refine wp_scope_straight ?_
  go_wp2_with fail
  refine (HLX.out _).mono ?_
  rintro e wk ⟨⟨l, rfl, hl, h1, h2⟩, rfl⟩
  obtain ⟨m, rfl, hm, hx⟩ := top_bit HA.out.2 h1 h2
  have g1 : wrap64 (m : Int) = (m : Int) := by unfold wrap64; omega
  have HM := Lib.hid (And.intro (show m < 64 by omega) (And.intro hm hx))
  clear h1 h2 hm hx hl HLX
  go_wp2_with fail
  refine wp_label ?_
  go_wp2_with fail
  refine (members_any a _).mono ?_
  rintro e V ⟨rfl, rfl⟩
  have kb : Blk (((w.alloc (.cells #[.pointer none, .slice none 0 0] 88)).alloc (.cells #[.int .i64 (m : Nat)] 3)).alloc (.cells #[.int .u64 (a : Nat)] 23)) w.heap.size 88 #[.pointer none, .slice none 0 0] := ((Blk.new _ _ _).alloc _).alloc _
  have km : Blk (((w.alloc (.cells #[.pointer none, .slice none 0 0] 88)).alloc (.cells #[.int .i64 (m : Nat)] 3)).alloc (.cells #[.int .u64 (a : Nat)] 23)) (w.heap.size + 1) 3 #[.int .i64 (m : Nat)] := (Blk.newS w _ _ _).alloc _
  have ka : Blk (((w.alloc (.cells #[.pointer none, .slice none 0 0] 88)).alloc (.cells #[.int .i64 (m : Nat)] 3)).alloc (.cells #[.int .u64 (a : Nat)] 23)) (w.heap.size + 1 + 1) 23 #[.int .u64 (a : Nat)] := by
    have h := Blk.newS (w.alloc (.cells #[.pointer none, .slice none 0 0] 88)) (.cells #[.int .i64 (m : Nat)] 3) 23 #[.int .u64 (a : Nat)]
    rwa [World.size_alloc] at h
  have hW : Below w.heap.size w (((w.alloc (.cells #[.pointer none, .slice none 0 0] 88)).alloc (.cells #[.int .i64 (m : Nat)] 3)).alloc (.cells #[.int .u64 (a : Nat)] 23)) := balloc (balloc (balloc (Below.refl _ _) _) _) _
  have hsz : (((w.alloc (.cells #[.pointer none, .slice none 0 0] 88)).alloc (.cells #[.int .i64 (m : Nat)] 3)).alloc (.cells #[.int .u64 (a : Nat)] 23)).heap.size = w.heap.size + 3 := by simp
  have HX := Lib.hid (And.intro kb (And.intro km (And.intro ka (And.intro hW hsz))))
  clear kb km ka hW hsz
  go_wp2_with fail
  obtain ⟨kb, km, ka, hW, hsz⟩ := HX.out
  clear HX g0 g1
  obtain ⟨W0, hW0⟩ : ∃ W0, ((w.alloc (.cells #[.pointer none, .slice none 0 0] 88)).alloc (.cells #[.int .i64 (m : Nat)] 3)).alloc (.cells #[.int .u64 (a : Nat)] 23) = W0 := ⟨_, rfl⟩
  rw [hW0] at kb km ka hW hsz ⊢
  clear hW0
  have hTl := HT.out.lt
  refine (wpIn_wide (n := 20)).1 ?_
  refine wpIn_rangeM (n := 20) (by omega) (gf := 114) (lb := #[.pointer (some ⟨w.heap.size + 1 + 1, 0, none⟩)]) rfl (enters_of Tryz.func114 (by kernel_rfl) rfl)
    (members_seqM (20 - 1) w.heap.size (w.heap.size + 1 + 1) a (by omega) HA.out.1 W0 hTl (HT.out.keep hW) ka) (Below.refl _ _) hW.size (fun k h => h.elim) (fun _ => rfl)
    (TI m w.heap.size (w.heap.size + 5) w) (TX a w.heap.size (w.heap.size + 5) w)
    (by rw [hsz]; exact TI.stay (Nat.le_refl _) rfl) (fun c => by rw [hsz]; exact TX.stay (Nat.le_refl _) rfl)
    ⟨⟨fun x h => by simp at h, Bu.new W0 _ kb _, by simp⟩, km, hW⟩
    (fun x a' _ => a' = { tmps := #[.int .u64 (a : Nat), undef, .string ⟨#[]⟩, .pointer (some ⟨w.heap.size, 0, none⟩), .pointer (some ⟨w.heap.size + 1, 0, none⟩), .int .i64 x, .int .u64 (a : Nat), .bool false, .int .u64 (a : Nat), .int .i64 ((m : Int) + 1), .int .i64 m, .int .u64 (a : Nat), .func (.func 114) #[] #[.pointer (some ⟨w.heap.size + 1 + 1, 0, none⟩)], .int .i64 x, undef, undef, undef, undef, undef, undef, undef, undef], defers := [] })
    (fun x a' _ _ _ _ hs _ _ => hs)
    ?assign ?body ?done ?stop
  case assign =>
    rintro l2 pre x X K _ _ hi hK
    gi_wp2
    exact hK _ _ (KeptM.refl _ _) (Below.refl _ _) hi rfl
  case body =>
    rintro l2 pre x a' X rfl ⟨hpre, hbit, hx64⟩ hlo ⟨⟨hno, hbu, hpl⟩, hbm, hB⟩ rfl
    have hX5 : w.heap.size + 5 ≤ X.heap.size := by
      obtain ⟨r, hr⟩ := hlo
      have := (Array.getElem?_eq_some_iff.1 hr).1
      omega
    have hjl := jc_len pre
    have hdl := (dec_len x).2
    have cm := cell_of_row _ _ 0 _ _ _ hbm
    have HI := Lib.hid (And.intro hno (And.intro hbu (And.intro hbm (And.intro hB hpre))))
    have HBT := Lib.hid hbit
    have HS := Lib.hid (And.intro hX5 (And.intro hpl (And.intro hjl hdl)))
    clear hno hbu hpl hbm hB hpre hbit hlo kb km ka hW hTl hX5 hjl hdl
    gi_wp2_with fail
    refine ⟨trivial, ?_⟩
    refine (callsIn_wide.2 (itoa_any x hx64 _)).mono ?_
    rintro e wk ⟨rfl, rfl⟩
    gi_wp2_with fail
    refine ⟨trivial, ?_⟩
    refine (callsIn_wide.2 (ws_any w.heap.size (w.heap.size + 5) (jc pre) ⟨(dec x).toArray⟩ _ HI.out.2.1 (by omega) HS.out.1 (by have := HS.out.2; have e : (ByteArray.mk (dec x).toArray).size = (dec x).length := (by simp [ByteArray.size]); omega))).mono ?_
    rintro e X1 ⟨rfl, hb1, hk1⟩
    have hbm1 : Blk X1 (w.heap.size + 1) 3 #[.int .i64 (m : Nat)] := (hk1.2 _ (by omega) (by omega) (by have := HS.out.1; omega)).trans HI.out.2.2.1
    have cm1 := cell_of_row _ _ 0 _ _ _ hbm1
    have H1 := Lib.hid (And.intro hb1 (And.intro hk1 hbm1))
    clear hb1 hk1 hbm1 cm
    by_cases hxm : x = m
    · have hq : ((x : Int) == (m : Int)) = true := by simp [hxm]
      have HQ := Lib.hid hxm
      clear hxm
      gi_wp2_with fail
      obtain ⟨hb1, hk1, hbm1⟩ := H1.out
      obtain ⟨hno, hbu, hbm, hB, hpre⟩ := HI.out
      have hx := HQ.out
      subst hx
      have e : jc pre ++ (ByteArray.mk (dec x).toArray).data.toList = txL a := by
        rw [txL_pos a HA.out.2, eb_top hx64 HM.out.2.1 HM.out.2.2, jn_jc, hpre]
      rw [e] at hb1
      exact ⟨by rw [hsz]; exact hk1.keptM, ⟨rfl, hb1.bu⟩, hB.trans hk1.1⟩
    · have hq : ((x : Int) == (m : Int)) = false := by simp; omega
      have HQ := Lib.hid hxm
      clear hxm
      gi_wp2_with fail
      refine ⟨trivial, ?_⟩
      refine (callsIn_wide.2 (wb_any w.heap.size (w.heap.size + 5) _ 44 _ H1.out.1.bu (by omega) (Nat.le_trans HS.out.1 H1.out.2.1.1.size) (by have := HS.out.2; rw [List.length_append]; omega))).mono ?_
      rintro e X2 ⟨rfl, hb2, hk2⟩
      have H2 := Lib.hid (And.intro hb2 hk2)
      clear hb2 hk2
      gi_wp2_with fail
      obtain ⟨hb1, hk1, hbm1⟩ := H1.out
      obtain ⟨hno, hbu, hbm, hB, hpre⟩ := HI.out
      obtain ⟨hb2, hk2⟩ := H2.out
      have hk := hk1.trans hk2
      have e : jc pre ++ (ByteArray.mk (dec x).toArray).data.toList ++ [44] = jc (pre ++ [x]) := by rw [jc_snoc]; simp
      rw [e] at hb2
      refine ⟨by rw [hsz]; exact hk.keptM, hk.1, ⟨fun y hy => ?_, hb2.bu, ?_⟩, (hk2.2 _ (by omega) (by omega) hbm1.lt).trans hbm1, hB.trans hk.1⟩
      · rcases List.mem_append.1 hy with h | h
        · exact hno y h
        · simp at h; subst h; exact HQ.out
      · rw [List.length_append, List.length_singleton, hpre]; have := eb_len a x; omega
  case done =>
    rintro D xs X rfl rfl ⟨⟨hno, _⟩, _⟩ _
    have hm : m ∈ eb a 64 := (eb_mem a 64 m).2 ⟨HM.out.1, HM.out.2.1⟩
    exact absurd rfl (hno m hm)
  case stop =>
    rintro D c pre X hD _ ⟨⟨rfl, hbu⟩, hB⟩ hK
    have hw := hbu.lt
    have HK := Lib.hid (And.intro hK (And.intro hB hD))
    have HC := Lib.hid (bs_any w.heap.size (w.heap.size + 5) (txL a) X hbu (by omega))
    clear kb km ka hW hTl hK hB hbu hw
    gi_wp2_with fail
    go_wp2_with fail
    refine (HC.out).mono ?_
    rintro e Y ⟨rfl, h1, h2⟩
    have hy := h2 D HK.out.1
    rw [hD, hsz] at hy
    have HY := Lib.hid (And.intro hy (HK.out.2.1.trans h1))
    clear h1 h2 HC hy
    go_wp2_with fail
    rw [Exit.noGoto_ret]
    refine ⟨by simp, .inl ⟨_, _, rfl, run_takeDeferred HY.out.1, ?_⟩⟩
    exact ⟨_, results_tmp rfl _ _ _, rfl, HY.out.2.trans (below_put _ _ (by omega))⟩
theorem ltext_any (a : Nat) (ha : a < 2 ^ 64) (w : World) (hT : TZ w) :
    Calls Tryz.prog 50 #[.int .u64 (a : Nat)] w fun e w' => e = .returned (.string ⟨(txL a).toArray⟩) ∧ Below w.heap.size w w' := by
  by_cases h0 : a = 0
  · subst h0; exact text_zero w
  · exact text_pos a ha h0 w hT
end Go.Proofs.YtenepkgjdoddgaaGreatDoor
