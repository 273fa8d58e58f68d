/- bits: Each goes over the bits that are 1. -/
import Derived.Test.YtidpekcegocjfaaDoorBn
import Derived.Stop.RegionWithIn
import Derived.Sort.LoopGhostIn
namespace Go.Proofs.YtidpekcegocjfaaDoor
open Go.RowKit Go.Shelf
attribute [local go_sem] ix0 ix1 ix2 ix3
attribute [local go_sem] Oper.semAt_some
theorem Abide.tz {β : Type} {B : Nat} (hB : 0 < B) : Abide B (fun (_ : β) X => TZ X) := fun _ X Y row hs hg hr j hj => by
  have hl := TZ.lt hs
  have hb := hg.block 0 hl (fun e => by have := hr _ e.symm; omega)
  have h := hs j hj
  unfold World.cell? at h ⊢
  simp only [hb]
  exact h

/-- What is walked at a fence is walked in a round of it, where nothing is deferred. -/
theorem wpAnyIn_round {F : Fence} {n : Nat} {P : Program} {md : Region.Mode} {ops : Array Oper} {Q : Exit → Act → World → Prop} (l : Nat) (hnd : ∀ (j : Nat) (o : Oper), ops[j]? = some o → ∀ c, o.op ≠ .defer c) :
    ∀ (fuel : Nat) (listed : Array Bool) (a : Act) (w : World), wpAnyIn F n P md ops Q fuel listed a w → wpAnyIn (F.inRound l) n P md ops Q fuel listed a w := by
  intro fuel
  induction fuel with
  | zero => intro listed a w h; exact h
  | succ fuel ih =>
    intro listed a w h
    refine ⟨h.1, fun i hi => wpOpIn_mono (ih _) ?_⟩
    have h2 := h.2 i hi
    unfold wpOpIn at h2 ⊢
    cases ho : ops[i]? with
    | none => rw [ho] at h2; exact h2
    | some o =>
      rw [ho] at h2
      dsimp only at h2 ⊢
      split
      · rename_i hw
        rw [if_pos hw] at h2
        unfold Oper.wpIn at h2 ⊢
        rw [Oper.semAt_plain _ _ _ (hnd i o ho)] at h2 ⊢
        refine ⟨h2.1, ?_⟩
        have h3 := h2.2
        generalize (execOp a.eval o).run P w = r at *
        cases r with
        | ok x w' => cases x <;> exact h3
        | halt x w' => cases x <;> exact h3
      · rename_i hw
        rw [if_neg hw] at h2
        exact h2
/-- A drawn region in a round, walked at the fence. -/
theorem wpIn_region_round {F : Fence} {n : Nat} {P : Program} {ops : Array Oper} {Q : Exit → Act → World → Prop} {id : Nat} {a : Act} {w : World} (l : Nat) (hm : P.follows .mixedOrders = true) (hnd : (ops.all fun o => match o.op with | .defer _ => false | _ => true) = true)
    (h : wpAnyIn F n P .any ops Q ops.size (Array.replicate ops.size false) a w.drew) : (Code.region id ops true).wpIn (F.inRound l) n P Q a w :=
  wpIn_region_any hm (wpAnyIn_round l (fun j o ho c hc => by
    have h1 := Array.all_eq_true.1 hnd j (Array.getElem?_eq_some_iff.1 ho).1
    have h2 : ops[j]'(Array.getElem?_eq_some_iff.1 ho).1 = o := (Array.getElem?_eq_some_iff.1 ho).2
    rw [h2, hc] at h1
    cases h1) _ _ _ _ h)
/-- Behind a word, so that nothing takes it unasked. -/
structure Kept1 (T : Prop) : Prop where
  out : T
theorem join_all {T R : Prop} (f : Kept1 T → R) (t : T) : R := f ⟨t⟩

set_option maxRecDepth 100000 in
set_option maxHeartbeats 4000000 in
theorem each1_in (n : Nat) (hn : 8 ≤ n) (l A n₀ a : Nat) (J Jx : List Nat → World → Prop) (w : World) (hn₀ : n₀ ≤ w.heap.size) (hG : 0 < n₀) (hT : TZ w)
    (hA : Blk w A 24 (Wc a)) (hJ : Abide w.heap.size J) (hJx : Abide w.heap.size Jx)
    (hY : ∀ pre (x : Nat) X, (pre = eb a x ∧ a.testBit x = true ∧ x < 256) → J pre X → YieldAt Fence.wide 0 Tryd.prog l #[.int .i64 x] X fun e Y => (e = .returned (.bool true) ∧ J (pre ++ [x]) Y ∧ Kept w.heap.size X Y ∧ Below n₀ X Y) ∨ (e = .returned (.bool false) ∧ Jx (pre ++ [x]) Y ∧ Kept w.heap.size X Y))
    (h0 : J [] w) :
    CallsIn Fence.wide n Tryd.prog 33 #[.func (.yield l) #[] #[], .pointer (some ⟨A, 0, none⟩)] w fun e Y => (∃ v, e = .returned v) ∧
      ((∃ xs, xs = eb a 256 ∧ J xs Y) ∨ (∃ pre, (∃ x, x < 256 ∧ a.testBit x = true ∧ pre = eb a x ++ [x]) ∧ Jx pre Y)) := by
  refine callsIn_of_wp_marks Tryd.func33 rfl trivial ?_ rfl
  simp only [Tryd.ntmps33, List.size_toArray, List.length_cons, List.length_nil, Nat.reduceAdd, Nat.reduceSub, Array.replicate_succ, Array.replicate_zero, List.push_toArray, List.append_toArray, List.nil_append, List.cons_append]
  have a0 := hA.get4.1
  have a1 := hA.get4.2.1
  have a2 := hA.get4.2.2.1
  have a3 := hA.get4.2.2.2.1
  have hlA := hA.lt
  have hbox : Blk ((w.alloc (.cells #[.func (.yield l) #[] #[]] 63)).alloc (.cells (Wc a) 24)) w.heap.size 63 #[.func (.yield l) #[] #[]] := (Blk.new w _ _).alloc _
  have hpb : Blk ((w.alloc (.cells #[.func (.yield l) #[] #[]] 63)).alloc (.cells (Wc a) 24)) (w.heap.size + 1) 24 (Wc a) := Blk.newS w _ _ _
  have hW : Below w.heap.size w ((w.alloc (.cells #[.func (.yield l) #[] #[]] 63)).alloc (.cells (Wc a) 24)) := balloc (balloc (Below.refl _ _) _) _
  have hj0 : J [] ((w.alloc (.cells #[.func (.yield l) #[] #[]] 63)).alloc (.cells (Wc a) 24)) := hJ.alloc _ (hJ.alloc _ h0)
  have hsz : ((w.alloc (.cells #[.func (.yield l) #[] #[]] 63)).alloc (.cells (Wc a) 24)).heap.size = w.heap.size + 2 := by simp
  have HX := Lib.hid (And.intro hbox (And.intro hpb (And.intro hW (And.intro hj0 (And.intro hsz hT)))))
  clear hA hbox hpb hW hj0 hsz hT h0
  gi_wp2_with fail
  refine (wpIn_wide (n := n)).2 (wp_scope_straight ((wpIn_wide (n := n)).1 ?_))
  gi_wp2_with fail
  refine wpIn_label ?_
  gi_wp2_with fail
  refine ⟨trivial, fun _ => by omega, ?_⟩
  refine (parts_in Fence.wide (n - 1) trivial rfl a _).mono ?_
  clear a0 a1 a2 a3
  rintro e V ⟨rfl, rfl⟩
  obtain ⟨hbox, hpb, hW, hj0, hsz, hT⟩ := HX.out
  clear HX
  gi_wp2_with fail
  obtain ⟨W0, hW0⟩ : ∃ W0, ((w.alloc (.cells #[.func (.yield l) #[] #[]] 63)).alloc (.cells (Wc a) 24)) = W0 := ⟨_, rfl⟩
  rw [hW0] at hbox hpb hW hj0 hsz ⊢
  clear hW0
  have hT0 : TZ W0 := hT.below (by omega) hW
  refine wpIn_rangeB (n := n) (by omega) (gf := 40) (lb := #[.pointer (some ⟨w.heap.size + 1, 0, none⟩)]) rfl (enters_of Tryd.func40 (by kernel_rfl) rfl)
    (parts_seq (n - 1) n₀ (w.heap.size + 1) a (by omega) W0 hpb) (Below.refl _ _) (by omega) (fun _ => rfl)
    (fun pre X => ((pre = List.range pre.length ∧ J (eb a (64 * pre.length)) X) ∧ Blk X w.heap.size 63 #[.func (.yield l) #[] #[]]) ∧ TZ X)
    (fun c _ X => c = .exit 0 ∧ ∃ j, (j < 256 ∧ a.testBit j = true) ∧ Jx (eb a j ++ [j]) X)
    ((((Abide.pure _ _).and ((hJ.mono (by omega)).comp (fun pre : List Nat => eb a (64 * pre.length)))).and (Abide.blk (by omega) _ (fun _ => _))).and (Abide.tz (by omega)))
    (fun c => (Abide.pure _ (fun _ => c = .exit 0)).and (Abide.ex fun j => (Abide.pure _ (fun _ => j < 256 ∧ a.testBit j = true)).and ((hJx.mono (by omega)).comp (fun _ => eb a j ++ [j]))))
    (fun _ _ _ => trivial)
    ⟨⟨⟨rfl, hj0⟩, hbox⟩, hT0⟩
    (fun x a' _ => a' = { tmps := #[.func (.yield l) #[] #[], .pointer (some ⟨A, 0, none⟩), .pointer (some ⟨w.heap.size, 0, none⟩), .int .i64 x, .int .u64 (lb a x), W a, .func (.func 40) #[] #[.pointer (some ⟨w.heap.size + 1, 0, none⟩)], .int .i64 x, .int .u64 (lb a x), undef, undef, undef, undef, undef, undef, undef, undef, undef, undef, undef, undef, undef, undef], defers := [] })
    (fun x a' _ _ _ _ hs _ _ => hs)
    ?assign ?body ?done ?stop
  case assign =>
    rintro l2 pre x X K _ hi hK
    gi_wp2
    exact hK _ _ (Kept.refl _ _) (Below.refl _ _) hi rfl
  case body =>
    rintro l2 pre x a' X hl2 ⟨hpre, hx4⟩ hlo ⟨⟨⟨hp0, hj⟩, hbx⟩, htz⟩ rfl
    clear hlo hp0 hT hT0 hj0 hW hpb hbox hlA
    have hpl : pre.length = x := by rw [hpre, List.length_range]
    rw [hpl] at hj
    have hlim := limb_bit a x
    have hLt := limb_lt a x
    rw [lb_nat]
    obtain ⟨L, hL⟩ : ∃ L, a / B64 ^ x % B64 = L := ⟨_, rfl⟩
    rw [hL] at hlim hLt ⊢
    have hJ2 : Abide W0.heap.size J := hJ.mono (by omega)
    have HB := Lib.hid hbx
    have HT := Lib.hid htz
    have HJ := Lib.hid hj
    have HLM := Lib.hid hlim
    clear hbx htz hj hlim hL
    gi_wp2_with fail
    gi_loopw [4] (fun p wr => ∃ s, s ≤ 64 ∧ p = .int .u64 ((L / 2 ^ s * 2 ^ s : Nat) : Int) ∧ J (eb a (64 * x + s)) wr ∧ Blk wr w.heap.size 63 #[.func (.yield l) #[] #[]] ∧ TZ wr ∧ Kept W0.heap.size X wr ∧ Below n₀ X wr) (fun p _ => (intOf p).toNat)
    case atStart => exact ⟨0, by omega, by simp, HJ.out, HB.out, HT.out, Kept.refl _ _, Below.refl _ _⟩
    case round =>
      clear HB HT HJ
      obtain ⟨s, hs, rfl, hj, hbx, htz, hkp, hbl⟩ := hrel
      by_cases h0 : L / 2 ^ s * 2 ^ s = 0
      · have hend := tz_end L s h0
        have he : eb a (64 * (pre ++ [x]).length) = eb a (64 * x + s) := by
          rw [List.length_append, List.length_singleton, hpl, show 64 * (x + 1) = (64 * x + s) + (64 - s) by omega]
          exact eb_skip a _ _ (fun j h1 h2 => by
            have e := hend (j - 64 * x) (by omega)
            rw [HLM.out _ (by omega)] at e
            rwa [show 64 * x + (j - 64 * x) = j by omega] at e)
        have hE := Lib.hid (show Kept W0.heap.size X wr ∧ Below n₀ X wr ∧ (((pre ++ [x] = List.range (pre ++ [x]).length ∧ J (eb a (64 * (pre ++ [x]).length)) wr) ∧ Blk wr w.heap.size 63 #[.func (.yield l) #[] #[]]) ∧ TZ wr) from
          ⟨hkp, hbl, ⟨⟨by rw [List.length_append, List.length_singleton, hpl, List.range_succ, hpre], by rw [he]; exact hj⟩, hbx⟩, htz⟩)
        clear hend he hj hbx htz hkp hbl hpre hpl
        rw [h0]
        clear h0
        gi_wp2_with fail
        exact hE.out
      · obtain ⟨c, hc, hsc, hc64, hbit, hno, hand⟩ := tz_state L s hLt h0
        have hp64 : L / 2 ^ s * 2 ^ s < 18446744073709551616 := Nat.lt_of_le_of_lt (Nat.div_mul_le_self _ _) hLt
        have hless : L / 2 ^ (c + 1) * 2 ^ (c + 1) < L / 2 ^ s * 2 ^ s := by
          rw [← hand]; exact Nat.lt_of_le_of_lt Nat.and_le_right (by omega)
        have hab : a.testBit (64 * x + c) = true := by rw [← HLM.out c hc64]; exact hbit
        have he : eb a (64 * x + s) = eb a (64 * x + c) := by
          obtain ⟨d, rfl⟩ : ∃ d, c = s + d := ⟨c - s, by omega⟩
          rw [← Nat.add_assoc]
          exact (eb_skip a _ d (fun j h1 h2 => by
            have e := hno (j - 64 * x) (by omega) (by omega)
            rw [HLM.out _ (by omega)] at e
            rwa [show 64 * x + (j - 64 * x) = j by omega] at e)).symm
        rw [he] at hj
        have hjd : J (eb a (64 * x + c)) wr.drew := hJ2 _ _ _ none hj (grown_drew ⟨rfl, rfl, rfl, Nat.le_refl _, fun _ _ _ => rfl⟩) (fun _ e => by cases e)
        obtain ⟨fn, tmps, assign, body, hy, hR⟩ := YieldAt.wide (m' := n - 1 - 1 - 1) (hY (eb a (64 * x + c)) (64 * x + c) wr.drew ⟨rfl, hab, by omega⟩ hjd)
        rw [show ((64 * x + c : Nat) : Int) = 64 * (x : Int) + c by omega] at hy
        have hhit := eb_hit a (64 * x + c) hab
        have HTC := Lib.hid (fun X hT => tz_any (L / 2 ^ s * 2 ^ s) hp64 h0 X hT)
        rw [hc] at HTC
        have HAND := Lib.hid hand
        have HLESS := Lib.hid hless
        have HHIT := Lib.hid hhit
        have HAB := Lib.hid (And.intro (show 64 * x + c < 256 by omega) hab)
        clear hand hless hhit hno he hbit hab hjd hj hc
        obtain ⟨p, hp⟩ : ∃ p, L / 2 ^ s * 2 ^ s = p := ⟨_, rfl⟩
        rw [hp] at HTC HAND HLESS hp64 h0 ⊢
        clear hp
        have g0 : ((p : Int) == 0) = false := by simp; omega
        have g0' : ((p : Int) != 0) = true := by simp; omega
        have g1 : IntKind.i64.wrap ((x : Int) * 64) = x * 64 := IntWalk.i64_in _ (by omega)
        have g2 : IntKind.i64.wrap ((x : Int) * 64 + c) = 64 * x + c := by rw [IntWalk.i64_in _ (by omega)]; omega
        have g3 : IntKind.u64.wrap ((p : Int) - 1) = ((p - 1 : Nat) : Int) := by rw [IntWalk.u64_in _ (by omega)]; omega
        have g4 : bits .and .u64 (p : Int) ((p - 1 : Nat) : Int) = ((L / 2 ^ (c + 1) * 2 ^ (c + 1) : Nat) : Int) := by rw [bits_and_u64_nat _ _ hp64 (by omega), HAND.out]
        have hyc := cell_of_row wr _ 0 _ _ _ hbx
        have HBX := Lib.hid hbx
        have HX := Lib.hid (And.intro hkp hbl)
        have HTZ := Lib.hid htz
        clear hbx hkp hbl htz HAND h0
        have HJJ := Lib.hid (And.intro hJ2 (And.intro hsz (And.intro hpre (And.intro hpl (And.intro hl2 (And.intro hn₀ hG))))))
        have hR2 := RoundIn.mono hR (R' := fun e Y => ∃ b : Bool, e = .returned (.bool b) ∧ (b = true → J (eb a (64 * x + c) ++ [64 * x + c]) Y ∧ Kept w.heap.size wr.drew Y ∧ Below n₀ wr.drew Y) ∧ (b = false → Jx (eb a (64 * x + c) ++ [64 * x + c]) Y ∧ Kept w.heap.size wr.drew Y)) (by
          rintro e Y (⟨rfl, h1, h2, h3⟩ | ⟨rfl, h1, h2⟩)
          · exact ⟨true, rfl, ⟨fun _ => ⟨h1, h2, h3⟩, fun h => (by cases h)⟩⟩
          · exact ⟨false, rfl, ⟨fun h => (by cases h), fun _ => ⟨h1, h2⟩⟩⟩)
        have hZD := HTZ.out.keep (Below.refl wr.heap.size wr).drew
        have hTC := (callsIn_wide (n := n - 1 - 1 - 1)).2 (HTC.out _ hZD)
        have HR2 := Lib.hid hR2
        have HTC2 := Lib.hid hTC
        have HS := Lib.hid (And.intro hsc (And.intro hs hLt))
        have hg3 := Lib.hid (And.intro g3 g4)
        clear hR hR2 hTC hZD hY hJ hJ2 hJx hsz hpre hpl hl2 hn₀ hG hsc hs hLt g3 g4
        gi_wp2_with fail
        have h1n : 1 ≤ n - 1 - 1 := by omega
        refine wpIn_region_round l2 (by kernel_rfl) (by kernel_rfl) ?_
        refine wpAnyIn_take (i := 1) (v := ?vq1) rfl rfl (by kernel_rfl) (by kernel_rfl) (by kernel_rfl) (fun _ _ _ h => h) ⟨Or.inl ⟨by rfl, ?yq1⟩, fun _ => rfl⟩ ?rq1
        case yq1 => (intro w; go_simp <;> with_reducible rfl)
        refine wpAnyIn_take (i := 2) (v := ?vq2) rfl rfl (by kernel_rfl) (by kernel_rfl) (by kernel_rfl) (fun _ _ _ h => h) ⟨Or.inl ⟨by rfl, ?yq2⟩, fun _ => rfl⟩ ?rq2
        case yq2 => (intro w; go_simp <;> with_reducible rfl)
        refine wpAnyIn_take (i := 3) (v := ?vq3) rfl rfl (by kernel_rfl) (by kernel_rfl) (by kernel_rfl) (fun _ _ _ h => h) ⟨Or.inl ⟨by rfl, ?yq3⟩, fun _ => rfl⟩ ?rq3
        case yq3 => (intro w; go_simp <;> with_reducible rfl)
        refine join_all (T := ?TK) (fun key => ?mk) ?kk
        case mk =>
          refine wpAnyIn_ready (rs := [0, 4]) (by kernel_rfl) (by simp) ?_
          refine AllReadyIn.cons rfl (fun K hK => ?_) (AllReadyIn.cons rfl (fun K hK => ?_) AllReadyIn.nil)
          · go_simp
            refine hK _ _ ?_
            clear hK K
            refine wpAnyIn_ready (rs := [4]) (by kernel_rfl) (by simp) ?_
            refine AllReadyIn.cons rfl (fun K hK => ?_) AllReadyIn.nil
            go_simp
            refine ⟨trivial, HTC2.out.mono ?_⟩
            rintro e wk ⟨rfl, rfl⟩
            refine hK _ _ ?_
            clear hK K
            refine wpAnyIn_take (i := 5) (v := ?vq5a) rfl rfl (by kernel_rfl) (by kernel_rfl) (by kernel_rfl) (fun _ _ _ h => h) ⟨Or.inl ⟨by rfl, ?yq5a⟩, fun _ => rfl⟩ ?rq5a
            case yq5a => (intro w; go_simp <;> with_reducible rfl)
            exact key.out
          · go_simp
            refine ⟨trivial, HTC2.out.mono ?_⟩
            rintro e wk ⟨rfl, rfl⟩
            refine hK _ _ ?_
            clear hK K
            refine wpAnyIn_take (i := 5) (v := ?vq5b) rfl rfl (by kernel_rfl) (by kernel_rfl) (by kernel_rfl) (fun _ _ _ h => h) ⟨Or.inl ⟨by rfl, ?yq5b⟩, fun _ => rfl⟩ ?rq5b
            case yq5b => (intro w; go_simp <;> with_reducible rfl)
            refine wpAnyIn_ready (rs := [0]) (by kernel_rfl) (by simp) ?_
            refine AllReadyIn.cons rfl (fun K hK => ?_) AllReadyIn.nil
            go_simp
            refine hK _ _ ?_
            clear hK K
            exact key.out
        case kk =>
          refine wpAnyIn_ready (rs := [6]) (by kernel_rfl) (by simp) ?_
          refine AllReadyIn.cons rfl (fun K hK => ?_) AllReadyIn.nil
          go_simp
          refine RoundIn.mono HR2.out ?_
          rintro e Y ⟨b, rfl, hb1, hb2⟩
          refine hK _ _ ?_
          clear hK K
          refine wpAnyIn_take (i := 7) (v := ?vq7) rfl rfl (by kernel_rfl) (by kernel_rfl) (by kernel_rfl) (fun _ _ _ h => h) ⟨Or.inl ⟨by rfl, ?yq7⟩, fun _ => rfl⟩ ?rq7
          case yq7 => (intro w; go_simp <;> with_reducible rfl)
          refine wpAnyIn_done (by kernel_rfl) ?_ _
          simp only [Act.put, List.getElem_toArray, List.getElem_cons_succ, List.getElem_cons_zero, List.setIfInBounds_toArray, List.set_cons_zero, List.set_cons_succ]
          obtain ⟨hj2, hsz, hpre, hpl, hl2, hn₀, hG⟩ := HJJ.out
          obtain ⟨hsc, hs, hLt⟩ := HS.out
          obtain ⟨hkp, hbl⟩ := HX.out
          cases b with
          | true =>
            obtain ⟨hjY, hkY, hbY⟩ := hb1 rfl
            rw [← HHIT.out, Nat.add_assoc] at hjY
            have hbxY : Blk Y w.heap.size 63 #[.func (.yield l) #[] #[]] := (hkY.2 _ (Nat.le_refl _) HBX.out.lt).trans HBX.out
            have hE := Lib.hid (show J (eb a (64 * x + (c + 1))) Y ∧ Blk Y w.heap.size 63 #[.func (.yield l) #[] #[]] ∧ TZ Y ∧ Kept W0.heap.size X Y ∧ Below n₀ X Y from
              ⟨hjY, hbxY, HTZ.out.below hG ((Below.refl n₀ wr).drew.trans hbY), hkp.trans (hkY.mono (by omega)), hbl.trans ((Below.refl n₀ wr).drew.trans hbY)⟩)
            have HC := Lib.hid (show c + 1 ≤ 64 by omega)
            obtain ⟨g3, g4⟩ := hg3.out
            clear hb1 hb2 hjY hkY hbY hbxY hj2 hsz hpre hpl hl2 hn₀ hG hsc hs hLt hkp hbl HX HS HJJ HTZ HBX hy hyc HTC HTC2 HR2
            gi_wp2_with fail
            go_roundw
            case rel => exact ⟨c + 1, HC.out, rfl, hE.out⟩
            case measure =>
              show ((L / 2 ^ (c + 1) * 2 ^ (c + 1) : Nat) : Int).toNat < ((p : Nat) : Int).toNat
              rw [Int.toNat_natCast, Int.toNat_natCast]
              exact HLESS.out
          | false =>
            obtain ⟨hjY, hkY⟩ := hb2 rfl
            have hE := Lib.hid (show Kept W0.heap.size X Y ∧ Jx (eb a (64 * x + c) ++ [64 * x + c]) Y from ⟨hkp.trans (hkY.mono (by omega)), hjY⟩)
            clear hb1 hb2 hjY hkY hj2 hsz hpre hpl hl2 hn₀ hG hsc hs hLt hkp hbl HX HS HJJ HTZ HBX hy hyc HTC HTC2 HR2
            gi_wp2_with fail
            exact ⟨hE.out.1, rfl, 64 * x + c, HAB.out, hE.out.2⟩
  case done =>
    rintro D xs X hD rfl ⟨⟨⟨_, hj⟩, _⟩, _⟩ hK
    have hJD : ∀ s, J s X → J s (X.putObj D (.deferred none)) := fun s h => hJ.put _ h (by omega)
    rw [List.length_range] at hj
    clear hpb hbox hT hT0 hj0 hW
    gi_wp2_with fail
    rw [Exit.noGoto_normal]
    refine ⟨by simp, .inl ⟨_, _, rfl, run_takeDeferred hK, ?_⟩⟩
    exact ⟨_, results_none rfl _ _ _, ⟨_, rfl⟩, .inl ⟨_, rfl, hJD _ hj⟩⟩
  case stop =>
    rintro D c pre X hD ⟨m, hm, _⟩ ⟨rfl, j, hj, hL⟩ hK
    have hJxD : ∀ s, Jx s X → Jx s (X.putObj D (.deferred none)) := fun s h => hJx.put _ h (by omega)
    clear hpb hbox hT hT0 hj0 hW
    gi_wp2
    rw [Exit.noGoto_normal]
    refine ⟨by simp, .inl ⟨_, _, rfl, run_takeDeferred hK, ?_⟩⟩
    exact ⟨_, results_none rfl _ _ _, ⟨_, rfl⟩, .inr ⟨_, ⟨j, hj.1, hj.2, rfl⟩, hJxD _ hL⟩⟩
/-- Each goes over the bits that are 1. -/
theorem each_seq (n n₀ A a : Nat) (hn : 8 ≤ n) (w : World) (hn₀ : n₀ ≤ w.heap.size) (hG : 0 < n₀) (hT : TZ w) (hA : Blk w A 24 (Wc a)) :
    SeqB n Tryd.prog 33 #[.pointer (some ⟨A, 0, none⟩)] (fun x : Nat => #[Value.int .i64 (x : Nat)]) n₀ (fun _ => True) (fun pre x => pre = eb a x ∧ a.testBit x = true ∧ x < 256) (fun xs => xs = eb a 256) (fun pre => ∃ x, x < 256 ∧ a.testBit x = true ∧ pre = eb a x ++ [x]) w := fun l J Jx W hW hJ hJx _ hY h0 =>
  each1_in n hn l A n₀ a J Jx W (Nat.le_trans hn₀ hW.size) hG (hT.keep hW) (hA.block_below hW) hJ hJx hY h0
end Go.Proofs.YtidpekcegocjfaaDoor
