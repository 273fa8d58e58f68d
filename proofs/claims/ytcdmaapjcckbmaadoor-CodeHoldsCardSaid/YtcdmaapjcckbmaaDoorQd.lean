/- Texts laid into one: Qd. -/
import Derived.Test.YtcdmaapjcckbmaaDoorXo
import Derived.Test.YtcdmaapjcckbmaaDoorXj
import Derived.Test.YtcdmaapjcckbmaaDoorXs
import Derived.Deep.LoopGhost
import Derived.Maps.Range
import Derived.WideKeyArr2
import Derived.ChangeKeysEq
import Derived.Lib.LazyBuf
import Derived.Test.YtcdmaapjcckbmaaDoorQc
import Derived.Deep.RegionHeld3
import Derived.RegionTactic
import Derived.BigRegion
/- code: the reference: Ops. -/
namespace Go.Proofs.YtcdmaapjcckbmaaDoor
open Go.RowKit Go.Shelf

theorem oi_z : ∀ n : Fin 256, (oi n.val).z = szO n.val := by decide +kernel
def plK (l : List Nat) (k : Nat) : List Nat := (List.range k).map (pos l)
theorem plK_len (l : List Nat) (k : Nat) : (plK l k).length = k := by simp [plK]
theorem plK_next (l : List Nat) (k : Nat) : plK l (k + 1) = plK l k ++ [pos l k] := by
  unfold plK; rw [List.range_succ, List.map_append]; rfl
theorem grown_own {X Y : World} {o : Option Nat} {B : Nat} (h : X.grownBy Y o) (ho : ∀ k, o = some k → B ≤ k) (hB : B ≤ X.heap.size) : Below B X Y :=
  ⟨h.os, h.tape, h.output, h.size, fun k hk => h.block k (by omega) (fun e => by have := ho k e.symm; omega)⟩
theorem field_z (a0 a1 a2 a3 a4 : Value) (z : Int) (w : World) : (Instr.field 25 (.agg #[a0, a1, a2, a3, a4, .int .i64 z]) 5).run Tryd.prog w = .ok (.int .i64 z) w := by kernel_rfl
set_option maxRecDepth 100000 in
set_option maxHeartbeats 4000000 in
theorem rops_any (B : Nat) (v : Value) (l : List Nat) (hl : l.length ≤ 1000) (w : World) (hB : B ≤ w.heap.size) (hv : Bto B w v l) : Calls Tryd.prog 14 #[v] w fun e w' => ∃ y c, e = .returned (.slice y (plL l).length c) ∧ OwI w' w.heap.size (.slice y (plL l).length c) (plL l) ∧ Below w.heap.size w w' := by
  obtain ⟨x0, c0, rfl⟩ : ∃ x0 c0, v = .slice x0 l.length c0 := by obtain ⟨_, x, c, h, _⟩ := hv; exact ⟨x, c, h⟩
  have HV := Lib.hid hv
  have HL := Lib.hid (And.intro hl hB)
  clear hv hl hB
  go_enter Tryd.func14, Tryd.ntmps14
  go_wp2_with fail
  go_loopg [3, 4] (opsN l) (fun g t3 t4 wr => ∃ k y c, g + k = opsN l ∧ t3 = .slice y (plK l k).length c ∧ t4 = .int .i64 (pos l k : Nat) ∧ OwI wr w.heap.size (.slice y (plK l k).length c) (plK l k) ∧ Below w.heap.size w wr)
  case atStart => exact ⟨0, none, 0, rfl, rfl, rfl, World.ownsRow_nil _ _ _ _, Below.refl _ _⟩
  case round =>
    obtain ⟨k, y, c, hk, rfl, rfl, hO, hW⟩ := hrel
    have hV := HV.out.kept hW.size (fun b hb h2 => hW.block b h2)
    by_cases hlt : pos l k < l.length
    · have hkn := opsN_lt.2 hlt
      obtain ⟨_, x, c', hx, h3, h4, h5⟩ := hV
      obtain ⟨b, o, e, hbB, hbX, hc⟩ := h5 (by intro e; rw [e] at hlt; simp at hlt)
      injection hx with hx1 hx2 hx3
      subst hx1
      subst hx3
      subst e
      have hcb := hc _ _ (opB_at hlt)
      have hob : opB l k < 256 := HV.out.1 _ (List.mem_of_getElem? (opB_at hlt))
      have hz := oi_z ⟨opB l k, hob⟩
      simp only at hz
      have hps : pos l (k + 1) = pos l k + 1 + szO (opB l k) := rfl
      have hsz := szO_le (opB l k)
      have hpI : (pos l k : Int) < (l.length : Int) := by omega
      have hp0 : (0 : Int) ≤ (pos l k : Int) := by omega
      have g1 : IntKind.i64.wrap ((pos l k : Int) + 1) = ((pos l k + 1 : Nat) : Int) := by rw [IntWalk.i64_in _ (by have := HL.out; omega)]; omega
      have g2 : IntKind.i64.wrap ((pos l k : Int) + 1 + ((szO (opB l k) : Nat) : Int)) = ((pos l (k + 1) : Nat) : Int) := by rw [IntWalk.i64_in _ (by have := HL.out; omega), hps]; omega
      have hwr := hW.size
      have hkl : k ≤ 1000 := by have := (opsN_spec l).2.1; have := HL.out.1; omega
      obtain ⟨y2, c2, w2, hrun, hO2, hG2⟩ := app_int wr w.heap.size _ (plK l k) (pos l k) 33 hO hwr (by rw [plK_len]; omega)
      rw [← plK_next] at hrun hO2
      have hB2 : Below w.heap.size (wr.alloc (.cells #[.int .i64 (pos l k : Nat)] 3)) w2 := grown_own hG2 (fun q e => (World.ownsRow.lt hO q e).1) (by rw [World.size_alloc]; omega)
      have hW2 := (balloc hW (.cells #[.int .i64 (pos l k : Nat)] 3)).trans hB2
      have hc2 : w2.cell? ⟨b, o + pos l k, none⟩ = some (.int .u8 (opB l k : Nat)) := (cell_heap (p := ⟨b, o + pos l k, none⟩) (((balloc (Below.refl wr.heap.size wr) (.cells #[.int .i64 (pos l k : Nat)] 3)).block b hbX |> fun h => (hB2.block b (by have := HL.out.2; omega)).trans h))).trans hcb
      have HI := Lib.hid (fun w => rinfo_any (opB l k) hob w)
      unfold oiC at HI
      rw [hz] at HI
      have hfl := fun w => field_z (.string ⟨(oi (opB l k)).nm.toArray⟩) (.int .i64 (oi (opB l k)).i) (.int .i64 (oi (opB l k)).o) (.int .u64 (oi (opB l k)).g) (.bool (oi (opB l k)).q) (szO (opB l k) : Nat) w
      have HS := Lib.hid (And.intro hO2 (And.intro hW2 (And.intro hk hkn)))
      clear hO hW hcb hc h3 h4 h5 hx2 hbX hbB hob hz hps hsz hG2 hB2 hO2 hW2 hk hkn hkl hlt
      generalize (plK l k).length = m0 at *
      generalize hm1 : (plK l (k + 1)).length = m1 at *
      go_wp2_with (first
        | (at_builtin; refine wpList_plain rfl fun K hK => ?_; refine wp_app_run (.tmp 18) (.tmp 20) 33 rfl rfl rfl hrun ?_; refine hK _ _ ?_; clear hK K)
        | (go_at_call 11; refine (HI.out _).mono ?_; rintro e w3 ⟨rfl, h3⟩)
        | fail)
      have HE := Lib.hid (And.intro (World.ownsRow.kept HS.out.1 (grown_new h3) (by cases (Value.slice y2 m1 c2).ownBlock <;> simp)) (bstep HS.out.2.1 h3))
      clear h3 hfl hc2 g1 g2 hpI hp0 hwr
      have HK := Lib.hid HS.out.2.2
      clear HS
      go_roundg (gk - 1)
      case measure => have := HK.out; omega
      case rel => exact ⟨k + 1, y2, c2, by have := HK.out; omega, by rw [hm1], rfl, by rw [hm1]; exact HE.out.1, HE.out.2⟩
    · have hpI : ¬ (pos l k : Int) < (l.length : Int) := by omega
      obtain rfl : k = opsN l := by
        rcases Nat.lt_or_ge k (opsN l) with h | h
        · exact absurd (opsN_lt.1 h) hlt
        · omega
      have HE := Lib.hid (And.intro hO hW)
      clear hO hW hV hlt hk
      go_wp2_with fail
      go_ret
      exact ⟨y, c, rfl, HE.out⟩
end Go.Proofs.YtcdmaapjcckbmaaDoor

/- code: the reference: Marks, In. -/
namespace Go.Proofs.YtcdmaapjcckbmaaDoor
open Go.RowKit Go.Shelf

theorem owI_at {X : World} {base c k x : Nat} {y : Option Addr} {L : List Nat} (h : OwI X base (.slice y L.length c) L) (hk : L[k]? = some x) : ∃ g, y = some ⟨g, 0, none⟩ ∧ base ≤ g ∧ g < X.heap.size ∧ X.cell? ⟨g, k, none⟩ = some (.int .i64 (x : Nat)) := by
  have hkl : k < L.length := (List.getElem?_eq_some_iff.1 hk).1
  obtain ⟨g, c2, hv⟩ := Go.Joins.ownsRow_form h (by omega)
  injection hv with hy hn hc
  subst hy
  have hlt := World.ownsRow.lt h g rfl
  refine ⟨g, rfl, hlt.1, hlt.2, ?_⟩
  have := World.ownsRow.cellAt h k (by omega)
  rw [this]
  simp [ivs, hk]
theorem plL_at {l : List Nat} {k : Nat} (h : k < opsN l) : (plL l)[k]? = some (pos l k) := by
  unfold plL
  rw [List.getElem?_map, List.getElem?_range h]
  rfl
theorem plL_len (l : List Nat) : (plL l).length = opsN l := by simp [plL]
set_option maxRecDepth 100000 in
set_option maxHeartbeats 4000000 in
theorem rmarks_any (B : Nat) (v : Value) (l : List Nat) (hl : l.length ≤ 1000) (w : World) (hB : B ≤ w.heap.size) (hv : Bto B w v l) : Calls Tryd.prog 17 #[v] w fun e w' => ∃ y c, e = .returned (.slice y (mkL l).length c) ∧ OwI w' w.heap.size (.slice y (mkL l).length c) (mkL l) ∧ Below w.heap.size w w' := by
  have HR := Lib.hid (rops_any B v l hl w hB hv)
  obtain ⟨x0, c0, rfl⟩ : ∃ x0 c0, v = .slice x0 l.length c0 := by obtain ⟨_, x, c, h, _⟩ := hv; exact ⟨x, c, h⟩
  have HV := Lib.hid hv
  have HL := Lib.hid (And.intro hl hB)
  clear hv hl hB
  go_enter Tryd.func17, Tryd.ntmps17
  go_wp2_with (first
    | (go_at_call 14; refine (HR.out).mono ?_; rintro e w1 ⟨yL, cL, rfl, hL, h1⟩)
    | fail)
  have HM := Lib.hid (And.intro hL (And.intro h1 (And.intro (HV.out.kept h1.size (fun b _ h2 => h1.block b h2)) (Nat.le_trans HL.out.2 h1.size))))
  have hw1 := h1.size
  clear hL h1 HR
  rw [plL_len] at HM ⊢
  go_loopg [3, 5] (opsN l) (fun g t3 t5 wr => ∃ k y c, g + k = opsN l ∧ t3 = .slice y (mkK l k).length c ∧ t5 = .int .i64 (k : Nat) ∧ OwI wr w1.heap.size (.slice y (mkK l k).length c) (mkK l k) ∧ Below w1.heap.size w1 wr)
  case atStart => exact ⟨0, none, 0, rfl, rfl, rfl, World.ownsRow_nil _ _ _ _, Below.refl _ _⟩
  case round =>
    obtain ⟨k, y, c, hk, rfl, rfl, hO, hW⟩ := hrel
    by_cases hlt : k < opsN l
    · have hkI : (k : Int) < (opsN l : Int) := by omega
      have hpl := opsN_lt.1 hlt
      have hkn : k < 1000 := by have := (opsN_spec l).2.1; have := HL.out.1; omega
      obtain ⟨gL, hyL, hgb, hgl, hcL⟩ := owI_at (L := plL l) (k := k) (by rw [plL_len]; exact HM.out.1) (plL_at hlt)
      obtain ⟨_, x, c', hx, h3, h4, h5⟩ := HM.out.2.2.1
      obtain ⟨b, o, e, hbB, hbX, hc⟩ := h5 (by intro e; rw [e] at hpl; simp at hpl)
      injection hx with hx1 hx2 hx3
      subst hx1
      subst hx3
      subst e
      subst hyL
      have cL1 : wr.cell? ⟨gL, k, none⟩ = some (.int .i64 (pos l k : Nat)) := (cell_heap (p := ⟨gL, k, none⟩) (hW.block gL hgl)).trans hcL
      have cb : wr.cell? ⟨b, o + pos l k, none⟩ = some (.int .u8 (opB l k : Nat)) := (cell_heap (p := ⟨b, o + pos l k, none⟩) (hW.block b hbX)).trans (hc _ _ (opB_at hpl))
      have hpI : (pos l k : Int) < (l.length : Int) := by omega
      have hp0 : (0 : Int) ≤ (pos l k : Int) := by omega
      have hk0 : (0 : Int) ≤ (k : Int) := by omega
      have g1 : IntKind.i64.wrap ((k : Int) + 1) = ((k + 1 : Nat) : Int) := by rw [IntWalk.i64_in _ (by omega)]; omega
      have hwr := hW.size
      clear h3 h4 h5 hc hcL hgb hgl hbB hbX hx2 hpl
      by_cases hq : opB l k = 91
      · have hqI : ((opB l k : Int) == 91) = true := by rw [hq]; rfl
        have hml := mkK_len l k
        obtain ⟨y2, c2, w2, hrun, hO2, hG2⟩ := app_int wr w1.heap.size _ (mkK l k) (pos l k) 33 hO hwr (by omega)
        rw [← mkK_hit l k hq] at hrun hO2
        have hB2 : Below w1.heap.size (wr.alloc (.cells #[.int .i64 (pos l k : Nat)] 3)) w2 := grown_own hG2 (fun q e => (World.ownsRow.lt hO q e).1) (by rw [World.size_alloc]; omega)
        have hW2 := (balloc hW (.cells #[.int .i64 (pos l k : Nat)] 3)).trans hB2
        have HE := Lib.hid (And.intro hO2 (And.intro hW2 (And.intro hk hlt)))
        clear hO hW hml hG2 hB2 hO2 hW2 hk hlt hq hwr hkn
        generalize (mkK l k).length = m0 at *
        generalize hm1 : (mkK l (k + 1)).length = m1 at *
        go_wp2_with (first
          | (at_builtin; refine wpList_plain rfl fun K hK => ?_; refine wp_app_run (.tmp 22) (.tmp 27) 33 rfl rfl rfl hrun ?_; refine hK _ _ ?_; clear hK K)
          | fail)
        go_roundg (gk - 1)
        case measure => have := HE.out.2.2; omega
        case rel => exact ⟨k + 1, y2, c2, by have := HE.out.2.2; omega, by rw [hm1], rfl, by rw [hm1]; exact HE.out.1, HE.out.2.1⟩
      · have hqI : ((opB l k : Int) == 91) = false := by rw [beq_eq_false_iff_ne]; omega
        rw [← mkK_miss l k hq] at hO
        have hmm := mkK_miss l k hq
        have HE := Lib.hid (And.intro hO (And.intro hW (And.intro hk hlt)))
        rw [← hmm]
        clear hO hW hk hlt hq hwr hkn hmm
        generalize hm1 : (mkK l (k + 1)).length = m1 at *
        go_wp2_with fail
        go_roundg (gk - 1)
        case measure => have := HE.out.2.2; omega
        case rel => exact ⟨k + 1, y, c, by have := HE.out.2.2; omega, by rw [hm1], rfl, by rw [hm1]; exact HE.out.1, HE.out.2.1⟩
    · obtain rfl : k = opsN l := by omega
      have hkI : ¬ (opsN l : Int) < (opsN l : Int) := by omega
      have HE := Lib.hid (And.intro (hO.mono hw1) ((HM.out.2.1).trans (hW.mono hw1)))
      clear hO hW hlt hk
      go_wp2_with fail
      go_ret
      exact ⟨y, c, rfl, HE.out⟩
end Go.Proofs.YtcdmaapjcckbmaaDoor

/- code: a map of ints to ones, as a set of places. -/
namespace Go.Proofs.YtcdmaapjcckbmaaDoor
open Go.RowKit Go.Shelf Go.ChangeMaps Go.MapKept

theorem keyedI : Maps.Keyed Tryd.prog 3 := Maps.int_keyed Tryd.underlying3
theorem keyI (n : Nat) (hn : n ≤ 1000000) : keyOf Tryd.prog 3 (.int .i64 (n : Nat)) = some (.int .i64 (n : Nat)) := Maps.keyOf_int_mk Tryd.underlying3 (WalkArith.wf_i64 (by omega))
theorem vI_inj {n k : Nat} (h : Value.int .i64 (n : Nat) = Value.int .i64 (k : Nat)) : n = k := by injection h with _ h; exact Int.ofNat.inj h
/-- A set turned at one place. -/
def upS (S : Nat → Bool) (n : Nat) (o : Bool) : Nat → Bool := fun k => if k = n then o else S k
theorem upS_same (S : Nat → Bool) (n : Nat) (o : Bool) : upS S n o n = o := if_pos rfl
theorem upS_other (S : Nat → Bool) {n k : Nat} (o : Bool) (h : k ≠ n) : upS S n o k = S k := if_neg h
def MarkOk (S : Nat → Bool) (es : Array MapEntry) (clock : Nat) : Prop := Stamped es clock ∧ (∀ x ∈ es.toList, ∃ n, n ≤ 1000000 ∧ x.key = .int .i64 (n : Nat) ∧ x.val = .int .i64 1 ∧ S n = true) ∧ ∀ n, S n = true → n ≤ 1000000 ∧ ∃ x ∈ es.toList, x.key = .int .i64 (n : Nat)
/-- Block b is a map of ints to ones, its keys those of S. -/
def MkS (X : World) (b : Nat) (S : Nat → Bool) : Prop := ∃ es clock, X.heap[b]? = some (.map es clock) ∧ MarkOk S es clock
theorem MkS.lt {X : World} {b : Nat} {S : Nat → Bool} (h : MkS X b S) : b < X.heap.size := by
  obtain ⟨es, clock, hb, _⟩ := h
  exact (Array.getElem?_eq_some_iff.1 hb).1
theorem MkS.of_block {X Y : World} {b : Nat} {S : Nat → Bool} (h : MkS X b S) (hk : Y.heap[b]? = X.heap[b]?) : MkS Y b S := by
  obtain ⟨es, clock, hb, r⟩ := h
  exact ⟨es, clock, hk.trans hb, r⟩
theorem MkS.keep {X Y : World} {b : Nat} {S : Nat → Bool} (h : MkS X b S) (k : Below X.heap.size X Y) : MkS Y b S := h.of_block (k.block b h.lt)
theorem MkS.kept {X Y : World} {b : Nat} {S : Nat → Bool} {row : Option Nat} (h : MkS X b S) (k : X.grownBy Y row) (hb : some b ≠ row) : MkS Y b S := h.of_block (k.block b h.lt hb)
theorem MkS.made (X : World) (c : Nat) : MkS (X.alloc (.map #[] c)) X.heap.size (fun _ => false) :=
  ⟨#[], c, (MapKept.heap_alloc X _).1, stamped_empty c, by simp, by simp⟩
theorem MarkOk.keys {S : Nat → Bool} {es : Array MapEntry} {clock : Nat} (h : MarkOk S es clock) : ∀ e ∈ es.toList, ∃ l, keyOf Tryd.prog 3 e.key = some l := fun e he => by
  obtain ⟨n, hn, hk, _⟩ := h.2.1 e he
  rw [hk]; exact ⟨_, keyI n hn⟩
theorem MarkOk.find {S : Nat → Bool} {es : Array MapEntry} {clock : Nat} (h : MarkOk S es clock) (n : Nat) (hn : n ≤ 1000000) (w : World) :
    ((Instr.findKey 3 (.int .i64 (n : Nat)) es.toList).run Tryd.prog w = .ok none w ∧ S n = false ∧ ∀ e ∈ es.toList, e.key ≠ .int .i64 (n : Nat)) ∨
    ∃ j e, (Instr.findKey 3 (.int .i64 (n : Nat)) es.toList).run Tryd.prog w = .ok (some (j, e.val)) w ∧ es.toList[j]? = some e ∧ e.key = .int .i64 (n : Nat) ∧ e.val = .int .i64 1 ∧ S n = true := by
  rcases keyedI.find w (keyI n hn) es.toList h.keys with ⟨h1, h2⟩ | ⟨j, e, h1, h2, h3⟩
  · refine Or.inl ⟨h1, ?_, h2⟩
    cases hm : S n with
    | false => rfl
    | true =>
      obtain ⟨_, x, hx, hk⟩ := h.2.2 n hm
      exact absurd hk (h2 x hx)
  · obtain ⟨n', _, hk, hval, hs⟩ := h.2.1 e (List.mem_of_getElem? h2)
    have := vI_inj (hk.symm.trans h3)
    subst this
    exact Or.inr ⟨j, e, h1, h2, h3, hval, hs⟩
theorem undMk : Tryd.prog.underlying 55 = some (.map 3 3) := by kernel_rfl
theorem MkS.look {X : World} {b : Nat} {S : Nat → Bool} (h : MkS X b S) (n : Nat) (hn : n ≤ 1000000) :
    (Instr.lookup 55 (.map (some b)) (.int .i64 (n : Nat)) false).run Tryd.prog X = .ok (.int .i64 (if S n then 1 else 0)) X := by
  obtain ⟨es, clock, hb, E⟩ := h
  rcases E.find n hn X with ⟨h1, h2, _⟩ | ⟨j, e, h1, _, _, h4, h5⟩
  · simp [Instr.lookup, run_underlying undMk, MapKept.run_getObj_map hb, keyedI.check X _ (keyI n hn), h1, Result.andThen, h2]
  · simp [Instr.lookup, run_underlying undMk, MapKept.run_getObj_map hb, keyedI.check X _ (keyI n hn), h1, Result.andThen, h5, h4]
theorem MkS.len {X : World} {b : Nat} {S : Nat → Bool} (h : MkS X b S) (h0 : ∀ n, S n = false) (ty : TypeId) : (Builtin.len_ #[55] ty #[.map (some b)]).run Tryd.prog X = .ok (.int .i64 0) X := by
  obtain ⟨es, clock, hb, E⟩ := h
  have : es = #[] := by
    refine Array.eq_empty_of_size_eq_zero ?_
    rcases Nat.eq_zero_or_pos es.size with h | h
    · exact h
    · obtain ⟨n, _, _, _, hm⟩ := E.2.1 es[0] (by simp)
      rw [h0 n] at hm; cases hm
  subst this
  simp [Builtin.len_, run_underlying undMk, MapKept.run_getObj_map hb, goInt, Result.andThen]
theorem grown_setBlock {X : World} {b : Nat} {o : Obj} (hb : X.heap[b]? = some o) (o' : Obj) : X.grownBy (setBlock X b o') (some b) :=
  ⟨rfl, rfl, rfl, by simp [setBlock], fun i _ hi => (MapKept.heap_set hb).2 i (fun e => hi (by rw [e]))⟩
theorem MarkOk.push {S : Nat → Bool} {es : Array MapEntry} {clock : Nat} (h : MarkOk S es clock) {n : Nat} (hn : n ≤ 1000000) (hno : ∀ e ∈ es.toList, e.key ≠ .int .i64 (n : Nat)) : MarkOk (upS S n true) (es.push ⟨.int .i64 (n : Nat), .int .i64 1, clock⟩) (clock + 1) := by
  refine ⟨stamped_push h.1 hno, fun x hx => ?_, fun k hk => ?_⟩
  · simp only [Array.toList_push, List.mem_append, List.mem_singleton] at hx
    rcases hx with hx | rfl
    · obtain ⟨k, hk, e1, e2, e3⟩ := h.2.1 x hx
      refine ⟨k, hk, e1, e2, ?_⟩
      rw [upS_other _ _ (fun e => hno x hx (by rw [e1, e]))]; exact e3
    · exact ⟨n, hn, rfl, rfl, upS_same _ _ _⟩
  · by_cases e : k = n
    · subst e
      exact ⟨hn, ⟨.int .i64 (k : Nat), .int .i64 1, clock⟩, by simp, rfl⟩
    · rw [upS_other _ _ e] at hk
      obtain ⟨h1, x, hx, h2⟩ := h.2.2 k hk
      exact ⟨h1, x, by simp only [Array.toList_push, List.mem_append]; exact Or.inl hx, h2⟩
theorem MarkOk.erase {S : Nat → Bool} {es : Array MapEntry} {clock : Nat} (h : MarkOk S es clock) {n : Nat} {j : Nat} {e0 : MapEntry} (h2 : es.toList[j]? = some e0) (h3 : e0.key = .int .i64 (n : Nat)) :
    MarkOk (upS S n false) (es.eraseIdxIfInBounds j) clock := by
  have hp := ((stamped_iff es clock).1 h.1).2.2
  have hjl : j < es.toList.length := (List.getElem?_eq_some_iff.1 h2).1
  have hsub : (es.eraseIdxIfInBounds j).toList = es.toList.eraseIdx j := by
    unfold Array.eraseIdxIfInBounds
    rw [dif_pos (by simpa using hjl)]
    simp
  refine ⟨stamped_erase h.1 j, fun x hx => ?_, fun k hk => ?_⟩
  · rw [hsub, List.mem_eraseIdx_iff_getElem?] at hx
    obtain ⟨i, hne, hi⟩ := hx
    obtain ⟨k, hk, e1, e2, e3⟩ := h.2.1 x (List.mem_of_getElem? hi)
    refine ⟨k, hk, e1, e2, ?_⟩
    rw [upS_other _ _ (fun e => hne ?_)]; exact e3
    subst e
    have hxe : x = e0 := entry_eq_of_key hp (List.mem_of_getElem? hi) (List.mem_of_getElem? h2) (e1.trans h3.symm)
    subst hxe
    have hb : (es.toList.map (·.born)).Nodup := ((stamped_iff es clock).1 h.1).2.1
    have hil : i < es.toList.length := (List.getElem?_eq_some_iff.1 hi).1
    refine (List.getElem?_inj (l := es.toList.map (·.born)) (by simpa using hil) hb).1 ?_
    rw [List.getElem?_map, List.getElem?_map, h2, hi]
  · by_cases e : k = n
    · subst e; rw [upS_same] at hk; cases hk
    · rw [upS_other _ _ e] at hk
      obtain ⟨h1, x, hx, h4⟩ := h.2.2 k hk
      refine ⟨h1, x, ?_, h4⟩
      rw [hsub, List.mem_eraseIdx_iff_getElem?]
      obtain ⟨i, hi⟩ := List.getElem?_of_mem hx
      refine ⟨i, ?_, hi⟩
      rintro rfl
      rw [h2] at hi; cases hi
      rw [h4] at h3
      exact e (vI_inj h3)
theorem MkS.store {X : World} {b : Nat} {S : Nat → Bool} (h : MkS X b S) (n : Nat) (hn : n ≤ 1000000) (hno : S n = false) :
    ∃ Y, (Instr.mapUpdate 55 (.map (some b)) (.int .i64 (n : Nat)) (.int .i64 1)).run Tryd.prog X = .ok () Y ∧ MkS Y b (upS S n true) ∧ X.grownBy Y (some b) ∧ Y.heap.size = X.heap.size := by
  obtain ⟨es, clock, hb, E⟩ := h
  rcases E.find n hn X with ⟨h1, _, h2⟩ | ⟨j, e, h1, h2, h3, _, h5⟩
  · refine ⟨setBlock X b (.map (es.push ⟨.int .i64 (n : Nat), .int .i64 1, clock⟩) (clock + 1)), ?_, ⟨_, _, heap_setBlock_same hb _, E.push hn h2⟩, grown_setBlock hb _, by simp [setBlock]⟩
    simp [Instr.mapUpdate, run_underlying undMk, MapKept.run_getObj_map hb, keyedI.check X false (keyI n hn), h1, MapKept.run_setObj_map _ hb, Result.andThen, setBlock]
  · rw [hno] at h5; cases h5
theorem MkS.del {X : World} {b : Nat} {S : Nat → Bool} (h : MkS X b S) (n : Nat) (hn : n ≤ 1000000) :
    ∃ Y, (∀ ty, (Builtin.delete_ #[55, 3] ty #[.map (some b), .int .i64 (n : Nat)]).run Tryd.prog X = .ok (.tuple #[]) Y) ∧ MkS Y b (upS S n false) ∧ X.grownBy Y (some b) ∧ Y.heap.size = X.heap.size := by
  obtain ⟨es, clock, hb, E⟩ := h
  rcases E.find n hn X with ⟨h1, h0, h2⟩ | ⟨j, e, h1, h2, h3, _⟩
  · have hm : upS S n false = S := by
      funext k
      by_cases e : k = n
      · subst e; rw [upS_same, h0]
      · exact upS_other _ _ e
    refine ⟨setBlock X b (.map es clock), ?_, ⟨_, _, heap_setBlock_same hb _, by rw [hm]; exact E⟩, grown_setBlock hb _, by simp [setBlock]⟩
    intro ty; simp [Builtin.delete_, run_underlying undMk, MapKept.run_getObj_map hb, keyedI.check X _ (keyI n hn), h1, MapKept.run_setObj_map _ hb, Result.andThen, setBlock]
  · refine ⟨setBlock X b (.map (es.eraseIdxIfInBounds j) clock), ?_, ⟨_, _, heap_setBlock_same hb _, E.erase h2 h3⟩, grown_setBlock hb _, by simp [setBlock]⟩
    intro ty; simp [Builtin.delete_, run_underlying undMk, MapKept.run_getObj_map hb, keyedI.check X _ (keyI n hn), h1, MapKept.run_setObj_map _ hb, Result.andThen, setBlock]
/-- The marks of all ops from k on. -/
def mkF (l : List Nat) (k : Nat) (p : Nat) : Bool := (List.range (opsN l)).any fun j => decide (k ≤ j) && (opB l j == 91) && (pos l j == p)
theorem pos_inj (l : List Nat) {i j : Nat} (h : pos l i = pos l j) : i = j := by
  rcases Nat.lt_trichotomy i j with h1 | h1 | h1
  · have := pos_mono l h1; omega
  · exact h1
  · have := pos_mono l h1; omega
theorem mkF_at {l : List Nat} {k : Nat} (hk : k < opsN l) : mkF l k (pos l k) = (opB l k == 91) := by
  rw [Bool.eq_iff_iff]
  unfold mkF
  simp only [List.any_eq_true, List.mem_range, Bool.and_eq_true, decide_eq_true_iff, beq_iff_eq]
  constructor
  · rintro ⟨j, hj, ⟨hkj, hb⟩, hp⟩
    have := pos_inj l hp
    subst this; exact hb
  · exact fun h => ⟨k, hk, ⟨Nat.le_refl _, h⟩, rfl⟩
theorem mkF_step (l : List Nat) (k : Nat) : upS (mkF l k) (pos l k) false = mkF l (k + 1) := by
  funext p
  unfold upS
  split
  · rename_i h
    subst h
    symm
    unfold mkF
    rw [Bool.eq_false_iff]
    simp only [ne_eq, List.any_eq_true, List.mem_range, Bool.and_eq_true, decide_eq_true_iff, beq_iff_eq, not_exists, not_and]
    rintro j _ ⟨hkj, _⟩ hp
    have := pos_inj l hp
    omega
  · rename_i h
    unfold mkF
    refine congrArg (fun f => (List.range (opsN l)).any f) (funext fun j => ?_)
    by_cases hj : j = k
    · subst hj
      have : (pos l j == p) = false := by rw [beq_eq_false_iff_ne]; exact fun e => h e.symm
      rw [this]; simp
    · have : decide (k ≤ j) = decide (k + 1 ≤ j) := by rw [Bool.eq_iff_iff]; simp; omega
      rw [this]
theorem mkF_end (l : List Nat) (p : Nat) : mkF l (opsN l) p = false := by
  unfold mkF
  rw [Bool.eq_false_iff]
  simp only [ne_eq, List.any_eq_true, List.mem_range, Bool.and_eq_true, decide_eq_true_iff, beq_iff_eq, not_exists, not_and]
  rintro j hj ⟨hk, _⟩
  omega
/-- The first i places of a list, as a set. -/
def stF (L : List Nat) (i p : Nat) : Bool := (L.take i).contains p
theorem stF_step {L : List Nat} {i x : Nat} (h : L[i]? = some x) : upS (stF L i) x true = stF L (i + 1) := by
  funext p
  unfold upS stF
  have hi := (List.getElem?_eq_some_iff.1 h)
  obtain ⟨hl, hx⟩ := hi
  rw [List.take_succ_eq_append_getElem hl, hx, Bool.eq_iff_iff]
  split
  · rename_i e; subst e; simp
  · rename_i e; simp [e]
theorem stF_all (l : List Nat) : stF (mkL l) (mkL l).length = mkF l 0 := by
  funext p
  unfold stF mkF mkL mkK
  rw [List.take_length, Bool.eq_iff_iff]
  simp only [List.contains_iff_mem, List.mem_map, List.mem_filter, List.mem_range, List.any_eq_true, Bool.and_eq_true, decide_eq_true_iff, beq_iff_eq, Nat.zero_le, true_and]
  constructor
  · rintro ⟨j, ⟨h1, h2⟩, h3⟩; exact ⟨j, h1, h2, h3⟩
  · rintro ⟨j, h1, h2, h3⟩; exact ⟨j, ⟨h1, h2⟩, h3⟩
theorem stF_fresh (l : List Nat) {i x : Nat} (h : (mkL l)[i]? = some x) : stF (mkL l) i x = false := by
  have hn : (mkL l).Nodup := by
    unfold mkL mkK
    refine List.Pairwise.map (pos l) (R := fun a b => a ≠ b) (fun a b hab e => hab (pos_inj l e)) ?_
    exact (List.nodup_range).filter _
  unfold stF
  rw [Bool.eq_false_iff]
  intro hc
  rw [List.contains_iff_mem, List.mem_take_iff_getElem] at hc
  obtain ⟨j, hj, hx⟩ := hc
  have hx' : (mkL l)[j]? = some x := by rw [List.getElem?_eq_getElem (by omega), hx]
  have := (List.getElem?_inj (by omega) hn).1 (hx'.trans h.symm)
  omega
theorem mkL_lt (l : List Nat) {k x : Nat} (h : (mkL l)[k]? = some x) : x < l.length := by
  have hm := List.mem_of_getElem? h
  unfold mkL mkK at hm
  simp only [List.mem_map, List.mem_filter, List.mem_range] at hm
  obtain ⟨j, ⟨hj, _⟩, rfl⟩ := hm
  exact opsN_lt.1 hj
theorem szO_not (n : Nat) (hn : n < 256) (h : isO n = false) : szO n = 0 := by
  have hd : ∀ k : Fin 256, isO k.val = false → szO k.val = 0 := by decide +kernel
  exact hd ⟨n, hn⟩ h
end Go.Proofs.YtcdmaapjcckbmaaDoor

/- code: bytes.Clone of any row of bytes, Ops of any code. -/
namespace Go.Proofs.YtcdmaapjcckbmaaDoor
open Go.RowKit Go.Shelf

theorem Bto.monox {B C : Nat} {X : World} {v : Value} {l : List Nat} (h : Bto B X v l) (hB : B ≤ C) : Bto C X v l := by
  obtain ⟨h1, x, c, h2, h3, h4, h5⟩ := h
  exact ⟨h1, x, c, h2, h3, h4, fun hl => by obtain ⟨b, o, e, hb, hx, hc⟩ := h5 hl; exact ⟨b, o, e, Nat.lt_of_lt_of_le hb hB, hx, hc⟩⟩
theorem eqlx_nil (w : World) {t e : TypeId} (a : Option Addr) (n c : Nat) (h : Tryd.prog.underlying t = some (.slice e)) :
    (binOp .eql t (.slice a n c) (.slice none 0 0)).run Tryd.prog w = .ok (.bool a.isNone) w := by
  have h1 := run_equal_slice_nil (P := Tryd.prog) w t e a n c h
  simp only [binOp, Sem.run_bind, h1, Result.andThen_ok, Sem.run_pure]
theorem und_sbx : Tryd.prog.underlying 32 = some (.slice 5) := by kernel_rfl
set_option maxRecDepth 100000 in
set_option maxHeartbeats 2000000 in
theorem xclone_any (B : Nat) (v : Value) (l : List Nat) (hl : l.length ≤ 100000) (w : World) (hv : Bto B w v l) :
    Calls Tryd.prog 39 #[v] w fun e w' => ∃ x c, e = .returned (.slice x l.length c) ∧ Bto w'.heap.size w' (.slice x l.length c) l ∧ Below w.heap.size w w' := by
  obtain ⟨h1, x, c, rfl, h3, h4, h5⟩ := hv
  cases x with
  | none =>
    have hn : l = [] := by
      by_cases h : l = []
      · exact h
      · obtain ⟨b, o, e, _⟩ := h5 h; cases e
    subst hn
    clear h1 h3 h4 h5 hl
    have hnil : ∀ W, (binOp .eql 32 (.slice none ([] : List Nat).length c) (.slice none 0 0)).run Tryd.prog W = .ok (.bool true) W := fun W => eqlx_nil W _ _ _ und_sbx
    simp only [List.length_nil] at hnil
    go_enter Tryd.func39, Tryd.ntmps39
    go_wp2_with fail
    go_ret
    exact ⟨_, _, rfl, ⟨by simp, none, 0, rfl, by simp, by simp, fun h => (h rfl).elim⟩, Below.refl _ _⟩
  | some ad =>
    obtain ⟨i0, hi, hz0, hz1, hz2⟩ := info_parts' infoU8
    have hW := balloc (Below.refl w.heap.size w) (.cells #[] 5)
    have hown : (w.alloc (.cells #[] 5)).ownsRow w.heap.size 5 1 (.slice (some ⟨w.heap.size, 0, none⟩) 0 0) 0 [] := World.ownsRow_made w #[] 0 (Nat.le_refl _) (by unfold maxLen; omega) (by rfl)
    have hcells : ∀ j u, (bvs l)[j]? = some u → (w.alloc (.cells #[] 5)).cell? (ad.add j) = some u := fun j u hj => by
      have hne : l ≠ [] := fun e => by rw [e] at hj; cases hj
      obtain ⟨b, o, e, _, hbX, hc⟩ := h5 hne
      have e2 := Option.some.inj e
      subst e2
      rw [bvs_get] at hj
      cases hmj : l[j]? with
      | none => rw [hmj] at hj; cases hj
      | some z =>
        rw [hmj] at hj
        cases hj
        rw [Go.WideShapes.add_plain, hW.cell (p := ⟨b, o + j, none⟩) hbX]
        exact hc j z hmj
    have HC := Lib.hid (And.intro hcells (And.intro h1 (And.intro h4 hW)))
    have hsz : w.heap.size ≤ (w.alloc (.cells #[] 5)).heap.size := by simp
    have HSZ := Lib.hid hsz
    have hu := und_sbx
    obtain ⟨m, hm⟩ : ∃ m, l.length = m := ⟨_, rfl⟩
    have HM := Lib.hid hm
    rw [hm] at hl h3 ⊢
    clear hcells h1 h4 h5 hm hW hsz
    have hnil : ∀ W, (binOp .eql 32 (.slice (some ad) m c) (.slice none 0 0)).run Tryd.prog W = .ok (.bool false) W := fun W => eqlx_nil W _ _ _ und_sbx
    go_enter Tryd.func39, Tryd.ntmps39
    go_wp2_with (first
      | (at_builtin; refine wpList_append_own _ rfl _ _ 32 rfl w.heap.size 5 i0 (.int .u8 0) 1 1 hu hi hz0 hz1 hz2 rfl (by decide) _ 0 [] rfl hown ad m c (bvs l) rfl (by rw [bvs_len, HM.out, Nat.mul_one]) HC.out.1 (bvs_one l) ?c3 ?c4 HSZ.out ?_)
      | fail)
    case c3 => unfold maxLen; omega
    case c4 => omega
    intro v' w2 hown3 hgrow _
    have hB3 := HC.out.2.2.2.grown hgrow (by simp) (fun r e => by cases e; exact Nat.le_refl _)
    have hO : Ow w2 w.heap.size v' l := ⟨HC.out.2.1, by rw [HM.out]; simpa using hown3⟩
    obtain ⟨z, c3, rfl⟩ := hO.is
    have HO := Lib.hid (And.intro hO hB3)
    clear hown hown3 hgrow hB3 hi hz0 hz1 hz2 hu hO
    rw [HM.out] at HO
    rw [HM.out]
    go_wp2_with fail
    go_ret
    exact ⟨_, _, rfl, by have h := HO.out.1.bt.bto; exact h, HO.out.2⟩
theorem cops_any (B : Nat) (v : Value) (l : List Nat) (hl : l.length ≤ 1000) (w : World) (hv : Bto B w v l) : Calls Tryd.prog 15 #[v] w fun e w' => ∃ A x2 c2, e = .returned (.func (.func 64) #[] #[.pointer (some ⟨A, 0, none⟩)]) ∧ A < w'.heap.size ∧ (Blk w' A 32 #[.slice x2 l.length c2] ∧ Bto w'.heap.size w' (.slice x2 l.length c2) l) ∧ Below w.heap.size w w' := by
  have HC := Lib.hid (xclone_any B v l (by omega) w hv)
  obtain ⟨_, x, c, rfl, _, _, _⟩ := hv
  go_enter Tryd.func15, Tryd.ntmps15
  go_wp2_with (first
    | (go_at_call 39; refine (HC.out).mono ?_; rintro e w1 ⟨x1, c1, rfl, hb1, hw1⟩; have H1 := Lib.hid (And.intro hb1 hw1); clear hb1 hw1)
    | (go_at_call 38; refine (ops_any _ _ _ _).mono ?_; rintro e w2 ⟨rfl, rfl⟩)
    | fail)
  go_ret
  have hW := balloc (Below.refl w1.heap.size w1) (.cells #[.slice x1 l.length c1] 32)
  exact ⟨w1.heap.size, x1, c1, rfl, by rw [World.size_alloc]; omega, ⟨Blk.new w1 _ _, (H1.out.1.new hW).monox hW.size⟩, bstep H1.out.2 hW⟩
end Go.Proofs.YtcdmaapjcckbmaaDoor

/- code: CodeHolds' walk. -/
namespace Go.Proofs.YtcdmaapjcckbmaaDoor
open Go.RowKit Go.Shelf Go.ChangeMaps Go.MapKept
attribute [local go_sem] Oper.semAt_some
theorem ex_frame10 {T : Array Value} {D : List Deferred} {F : (Nat → Value) → Act} (h : ({ tmps := T, defers := D } : Act) = F (fun i => T.getD i .nilFunc)) : ∃ y, ({ tmps := T, defers := D } : Act) = F y := ⟨_, h⟩
theorem oi_szO (n : Nat) (hn : n < 256) : (oi n).z = szO n := by
  have hd : ∀ k : Fin 256, (oi k.val).z = szO k.val := by decide +kernel
  exact hd ⟨n, hn⟩
theorem Bto.apart {q g1 g2 : Nat} {X Y : World} {v : Value} {l : List Nat} {t : TypeId} {z : Int} {S : Nat → Bool} (h : Bto q X v l) (hs : X.heap.size ≤ Y.heap.size) (h1 : Blk X g1 t #[.int .i64 z]) (h2 : MkS X g2 S) (hk : ∀ i, i < X.heap.size → i ≠ g1 → i ≠ g2 → Y.heap[i]? = X.heap[i]?) : Bto q Y v l := by
  obtain ⟨h0, x, cap, rfl, a1, a2, a3⟩ := h
  refine ⟨h0, x, cap, rfl, a1, a2, fun hne => ?_⟩
  obtain ⟨b, o, rfl, hb1, hb2, hc⟩ := a3 hne
  obtain ⟨u, hu⟩ : ∃ u, l[0]? = some u := by cases l with | nil => exact absurd rfl hne | cons a r => exact ⟨a, rfl⟩
  have h00 := hc 0 u hu
  have e1 : b ≠ g1 := by
    rintro rfl
    have : X.heap[b]? = some (.cells #[.int .i64 z] t (0, 0)) := h1
    simp only [World.cell?, this, Nat.add_zero] at h00
    rcases o with _ | o <;> simp at h00
  have e2 : b ≠ g2 := by
    rintro rfl
    obtain ⟨es, ck, hm, _⟩ := h2
    simp [World.cell?, hm] at h00
  exact ⟨b, o, rfl, hb1, Nat.lt_of_lt_of_le hb2 hs, fun k u hk' => (cell_heap (p := ⟨b, o + k, none⟩) (hk b hb2 e1 e2)).trans (hc k u hk')⟩
/-- What stands between two rounds: the boxes, the marks that are left, the next place. -/
def HoB (q A h : Nat) (v2 : Value) (l : List Nat) (w : World) (k : Nat) (X : World) : Prop :=
  (Blk X h 4 #[.bool false] ∧ Blk X (h + 1) 3 #[.int .i64 (pos l k : Nat)] ∧ MkS X (h + 2) (mkF l k) ∧ Blk X (h + 3) 55 #[.map (some (h + 2))]) ∧ (Blk X A 32 #[v2] ∧ Bto q X v2 l) ∧ Below h w X
theorem HoB.kept {q A h r0 k : Nat} {v2 : Value} {l : List Nat} {w X Y : World} {row : Option Nat} (hh : HoB q A h v2 l w k X) (hg : X.grownBy Y row) (h3 : h + 3 < r0) (hqq : q ≤ r0) (hA : A < r0) (hs : h ≤ w.heap.size) (hr : ∀ r, row = some r → r0 ≤ r) : HoB q A h v2 l w k Y := by
  obtain ⟨⟨a1, a2, a3, a4⟩, ⟨a5, a6⟩, a7⟩ := hh
  have hk : ∀ i, i < r0 → i < X.heap.size → Y.heap[i]? = X.heap[i]? := fun i hi hx => hg.block i hx (fun e => by have := hr i e.symm; omega)
  exact ⟨⟨(hk _ (by omega) a1.lt).trans a1, (hk _ (by omega) a2.lt).trans a2, a3.of_block (hk _ (by omega) a3.lt), (hk _ (by omega) a4.lt).trans a4⟩, ⟨(hk _ hA a5.lt).trans a5, a6.kept hg.size (fun i hi hx => hk i (by omega) hx)⟩, a7.grown hg (Nat.le_trans hs a7.size) (fun r e => by have := hr r e; omega)⟩
theorem HoB.stay {q A h D : Nat} {v2 : Value} {l : List Nat} {w : World} (h3 : h + 3 < D) (hqq : q ≤ D) (hA : A < D) (hs : h ≤ w.heap.size) : StayM (fun k => noM k ∨ k = D ∨ k = D + 1) (fun (pre : List Nat) X => HoB q A h v2 l w pre.length X) := fun pre X Y row hh hw hr =>
  hh.kept hw h3 hqq hA hs (fun r e => by rcases hr r e with h | h | h; exact h.elim; omega; omega)
/-- The end of a round. -/
theorem HoB.next {q A h D k : Nat} {v2 : Value} {l : List Nat} {w X V Y Z : World} (hh : HoB q A h v2 l w k X) (hV : Below X.heap.size X V) (hY : MkS Y (h + 2) (mkF l (k + 1))) (hg : V.grownBy Y (some (h + 2))) (hz : Y.grownBy Z (some (h + 1))) (hn : Blk Z (h + 1) 3 #[.int .i64 (pos l (k + 1) : Nat)]) (h3 : h + 3 < D) :
    KeptM (fun k => noM k ∨ k = D ∨ k = D + 1) X Z ∧ Below h X Z ∧ HoB q A h v2 l w (k + 1) Z := by
  obtain ⟨⟨a1, a2, a3, a4⟩, ⟨a5, a6⟩, a7⟩ := hh
  have hsz : X.heap.size ≤ Z.heap.size := Nat.le_trans hV.size (Nat.le_trans hg.size hz.size)
  have hk : ∀ i, i < X.heap.size → i ≠ h + 1 → i ≠ h + 2 → Z.heap[i]? = X.heap[i]? := fun i hx e1 e2 =>
    (hz.block i (Nat.lt_of_lt_of_le hx (Nat.le_trans hV.size hg.size)) (fun e => e1 (Option.some.inj e))).trans ((hg.block i (Nat.lt_of_lt_of_le hx hV.size) (fun e => e2 (Option.some.inj e))).trans (hV.block i hx))
  have hB : Below h X Z := ⟨hz.os.trans (hg.os.trans hV.os), hz.tape.trans (hg.tape.trans hV.tape), hz.output.trans (hg.output.trans hV.output), hsz, fun i hi => hk i (by have := a1.lt; omega) (by omega) (by omega)⟩
  have e1 : A ≠ h + 1 := by rintro rfl; have := Option.some.inj (Eq.trans (Eq.symm a5) a2); simp at this
  have e2 : A ≠ h + 2 := by rintro rfl; obtain ⟨es, ck, hm, _⟩ := a3; have := Option.some.inj (Eq.trans (Eq.symm a5) hm); simp at this
  refine ⟨⟨hsz, fun i hi hx => hk i hx (by rcases hi with h | h | h; exact h.elim; omega; omega) (by rcases hi with h | h | h; exact h.elim; omega; omega)⟩, hB, ⟨(hk _ a1.lt (by omega) (by omega)).trans a1, hn, hY.of_block (hz.block _ hY.lt (fun e => by have := Option.some.inj e; omega)), (hk _ a4.lt (by omega) (by omega)).trans a4⟩, ⟨(hk _ a5.lt e1 e2).trans a5, a6.apart hsz a2 a3 hk⟩, a7.trans hB⟩
/-- The marks are laid into the map, one by one. -/
def HoL (M : Nat) (w1 : World) (l : List Nat) (k : Nat) (X : World) : Prop := w1.grownBy X (some M) ∧ MkS X M (stF (mkL l) k)
set_option maxRecDepth 100000 in
set_option maxHeartbeats 8000000 in
theorem holds_walk10 (B : Nat) (v : Value) (l : List Nat) (w : World) (hB : B ≤ w.heap.size) (hv : Bto B w v l) :
    Calls Tryd.prog 8 #[v] w fun e w' => e = .returned (.bool true) ∧ Below w.heap.size w w' := by
  have h256 := hv.1
  obtain ⟨x0, c0, rfl⟩ : ∃ x0 c0, v = .slice x0 l.length c0 := by obtain ⟨_, x, c, h, _⟩ := hv; exact ⟨x, c, h⟩
  by_cases h1 : 300 < l.length
  · have h1I : (300 : Int) < (l.length : Int) := by omega
    have k0 : Blk (w.alloc (.cells #[.bool false] 4)) w.heap.size 4 #[.bool false] := Blk.new w _ _
    have HR := Lib.hid k0
    clear h1 hB hv h256 k0
    refine (callsIn_wide (n := 20)).1 ?_
    refine callsIn_of_wp_marks Tryd.func8 rfl trivial ?_ rfl
    simp only [Tryd.ntmps8, List.size_toArray, List.length_cons, List.length_nil, Nat.reduceAdd, Nat.reduceSub, Array.replicate_succ, Array.replicate_zero, List.push_toArray, List.append_toArray, List.nil_append, List.cons_append]
    refine (wpIn_wide (n := 20)).2 ?_
    go_wp2_with (first | (go_at_call 9; refine (works_any10 _).mono ?_; rintro e wz ⟨rfl, hz⟩; have hR := HR.out.keep hz; have f0 := frozen_of_row _ _ 0 _ _ hR; have d0 := cell_of_row _ _ 0 _ _ _ hR; have HZ := Lib.hid (And.intro hR hz); clear hz hR) | fail)
    have hT := heap_setCell_same wz w.heap.size 0 _ _ (.bool true) HZ.out.1
    have q0 := cell_of_row _ _ 0 _ _ _ hT
    exact ⟨.bool true, by simp [results, Tryd.results8, go_sem, q0], rfl, (bstep (balloc (Below.refl _ _) _) HZ.out.2).setCell (p := ⟨w.heap.size, 0, none⟩) (by simp) _⟩
  have h1I : ¬ (300 : Int) < (l.length : Int) := by omega
  have hmm : ∀ X : World, (Instr.makeMap 55 none).run Tryd.prog X = .ok (.map (some X.heap.size)) (X.alloc (.map #[] 0)) := fun X => by simp [Instr.makeMap, go_sem, Result.andThen]
  have hnil : ∀ (p : Value) w, (binOp .eql 36 (.func (.func 64) #[] #[p]) .nilFunc).run Tryd.prog w = .ok (.bool false) w := fun _ _ => by kernel_rfl
  obtain ⟨X, hX⟩ : ∃ X, (((w.alloc (.cells #[.bool false] 4)).alloc (.cells #[.int .i64 0] 3)).alloc (.map #[] 0)).alloc (.cells #[.map (some (w.heap.size + 2))] 55) = X := ⟨_, rfl⟩
  have hal : Below w.heap.size w X := by rw [← hX]; exact balloc (balloc (balloc (balloc (Below.refl w.heap.size w) _) _) _) _
  have k0 : Blk X w.heap.size 4 #[.bool false] := by rw [← hX]; exact (((Blk.new w _ _).alloc _).alloc _).alloc _
  have k1 : Blk X (w.heap.size + 1) 3 #[.int .i64 (pos l 0 : Nat)] := by rw [← hX]; exact ((Blk.newS w _ _ _).alloc _).alloc _
  have k2 : MkS X (w.heap.size + 2) (fun _ => false) := by
    rw [← hX]
    have h := MkS.made ((w.alloc (.cells #[.bool false] 4)).alloc (.cells #[.int .i64 0] 3)) 0
    rw [World.size_alloc, World.size_alloc] at h
    exact h.keep (balloc (Below.refl _ _) _)
  have k3 : Blk X (w.heap.size + 3) 55 #[.map (some (w.heap.size + 2))] := by
    rw [← hX]
    have h := Blk.newS ((w.alloc (.cells #[.bool false] 4)).alloc (.cells #[.int .i64 0] 3)) (.map #[] 0) 55 #[.map (some (w.heap.size + 2))]
    rwa [World.size_alloc, World.size_alloc] at h
  have hsz : X.heap.size = w.heap.size + 4 := by rw [← hX]; simp
  have HX := Lib.hid (And.intro hX (And.intro hal (And.intro k0 (And.intro k1 (And.intro k2 (And.intro k3 hsz))))))
  have HM := Lib.hid (marks_any B _ l (by omega) X (by omega) (hv.new hal))
  have HL := Lib.hid (And.intro (show l.length ≤ 300 by omega) (And.intro hB h256))
  have HVX := Lib.hid (hv.new hal)
  clear hX hal k0 k1 k2 k3 hsz h1 hB hv h256
  refine (callsIn_wide (n := 20)).1 ?_
  refine callsIn_of_wp_marks Tryd.func8 rfl trivial ?_ rfl
  simp only [Tryd.ntmps8, List.size_toArray, List.length_cons, List.length_nil, Nat.reduceAdd, Nat.reduceSub, Array.replicate_succ, Array.replicate_zero, List.push_toArray, List.append_toArray, List.nil_append, List.cons_append]
  refine (wpIn_wide (n := 20)).2 ?_
  go_upto_region 6 with (first
    | (go_at_call 16; rw [HX.out.1]; refine (HM.out).mono ?_; rintro e w1 ⟨y1, c1, rfl, hO, hb⟩; have H1 := Lib.hid (And.intro hO hb); clear hO hb)
    | fail)
  have hm0 : MkS w1 (w.heap.size + 2) (stF (mkL l) 0) := by
    have h : stF (mkL l) 0 = fun _ => false := by funext p; unfold stF; simp
    rw [h]; exact HX.out.2.2.2.2.1.keep H1.out.2
  have HI0 := Lib.hid (show HoL (w.heap.size + 2) w1 l 0 w1 from ⟨grown_refl _ _, hm0⟩)
  obtain ⟨N, hN⟩ : ∃ N, (mkL l).length = N := ⟨_, rfl⟩
  have hNl : N ≤ 300 := by have := mkK_len l (opsN l); have := (opsN_spec l).2.1; have := HL.out.1; unfold mkL at hN; omega
  have HN := Lib.hid (And.intro hN hNl)
  rw [hN]
  have k3 := HX.out.2.2.2.2.2.1.keep H1.out.2
  have HK := Lib.hid k3
  clear hm0 hN k3
  go_wp2_with fail
  go_loopw [6] (fun i wr => ∃ k : Nat, k ≤ N ∧ i = .int .i64 k ∧ HoL (w.heap.size + 2) w1 l k wr) (fun i _ => N - (intOf i).toNat)
  case atStart => exact ⟨0, Nat.zero_le _, rfl, HI0.out⟩
  case round =>
    obtain ⟨k, hk, rfl, hrel⟩ := hrel
    by_cases hlt : k < N
    · have hltI : (k : Int) < (N : Int) := by omega
      have hO := H1.out.1
      rw [← HN.out.1] at hlt
      obtain ⟨x, hx⟩ : ∃ x, (mkL l)[k]? = some x := ⟨_, List.getElem?_eq_getElem hlt⟩
      obtain ⟨gr, e, hg1, hg2, cR⟩ := owI_at hO hx
      subst e
      obtain ⟨hgb, hms⟩ := hrel
      have hgb' : w1.grownBy wr.drew (some (w.heap.size + 2)) := grown_drew hgb
      have hms' : MkS wr.drew (w.heap.size + 2) (stF (mkL l) k) := hms
      have cR' : wr.drew.cell? ⟨gr, k, none⟩ = some (.int .i64 (x : Nat)) := (cell_heap (p := ⟨gr, k, none⟩) (hgb'.block gr hg2 (fun e => by injection e with e; have := HX.out.2.2.2.2.2.2; omega))).trans cR
      have kM := HK.out.kept hgb' (by intro e; injection e with e; omega)
      have cM : wr.drew.cell? ⟨w.heap.size + 3, 0, none⟩ = some (.map (some (w.heap.size + 2))) := cell_of_row _ _ 0 _ _ _ kM
      have hxb : x ≤ 1000000 := by have := mkL_lt l hx; have := HL.out.1; omega
      obtain ⟨Y, hst, hY1, hY2, hY3⟩ := hms'.store x hxb (stF_fresh l hx)
      rw [stF_step hx] at hY1
      have HY := Lib.hid (And.intro hY1 (And.intro hY2 hY3))
      have HG := Lib.hid hgb'
      clear hO hx cR hg1 hg2 kM hms hms' hgb hgb' hY1 hY2 hY3 hxb
      have hwk : IntKind.i64.wrap ((k : Int) + 1) = ((k + 1 : Nat) : Int) := IntWalk.i64_in _ (by omega)
      clear hlt
      go_upto_region 9 with fail
      go_region
      all_goals
        clear hst cM cR'
        go_wp2_with fail
        exact ⟨⟨k + 1, by omega, by go_num, HG.out.trans HY.out.2.1, HY.out.1⟩, by simp [intOf]; omega⟩
    · have hge : ¬ (k : Int) < (N : Int) := by omega
      obtain rfl : k = N := by omega
      obtain ⟨hgb, hms⟩ := hrel
      have hms' : MkS wr (w.heap.size + 2) (mkF l 0) := by rw [← stF_all, HN.out.1]; exact hms
      have hs4 := HX.out.2.2.2.2.2.2
      have hk0 := (HX.out.2.2.1.keep H1.out.2).kept hgb (by intro e; injection e with e; omega)
      have hk1 := (HX.out.2.2.2.1.keep H1.out.2).kept hgb (by intro e; injection e with e; omega)
      have hk3 := HK.out.kept hgb (by intro e; injection e with e; omega)
      have hvr : Bto B wr (.slice x0 l.length c0) l := (HVX.out.new H1.out.2).kept hgb.size (fun b h1 _ => hgb.block b (Nat.lt_of_lt_of_le (by have := HL.out.2.1; omega) H1.out.2.size) (by intro e; injection e with e; have := HL.out.2.1; omega))
      have hbr : Below w.heap.size w wr := ((HX.out.2.1).trans (H1.out.2.mono (by omega))).grown hgb (by have := H1.out.2.size; omega) (fun r e => by injection e with e; omega)
      have hO := Lib.hid (cops_any B _ l (by have := HL.out.1; omega) wr hvr)
      have hszr : w.heap.size + 4 ≤ wr.heap.size := by have := H1.out.2.size; have := hgb.size; omega
      have HA := Lib.hid (And.intro hk0 (And.intro hk1 (And.intro hms' (And.intro hk3 (And.intro hbr hszr)))))
      clear hk0 hk1 hms hms' hk3 hvr hbr hszr hgb hs4 HI0 HK H1 HM HVX hmm hk hNl
      go_upto_region 13 with (first
        | (go_at_call 15; refine (hO.out).mono ?_; rintro e V ⟨A, x2, c2, rfl, hA, hk2, h2⟩; have H2 := Lib.hid (And.intro hA (And.intro hk2 h2)); clear hA hk2 h2)
        | fail)
      have hbV := bstep HA.out.2.2.2.2.1 H2.out.2.2
      have hI0 : HoB V.heap.size A w.heap.size (.slice x2 l.length c2) l w 0 V := ⟨⟨HA.out.1.keep H2.out.2.2, HA.out.2.1.keep H2.out.2.2, HA.out.2.2.1.keep H2.out.2.2, HA.out.2.2.2.1.keep H2.out.2.2⟩, H2.out.2.1, hbV⟩
      have HG := Lib.hid (show w.heap.size + 3 < V.heap.size ∧ A < V.heap.size from ⟨by have := H2.out.2.2.size; have := HA.out.2.2.2.2.2; omega, H2.out.1⟩)
      have HI0 := Lib.hid hI0
      clear hI0 hbV HA hO hge hlt HN HX
      go_wp2_with fail
      refine (wpIn_wide (n := 20)).1 ?_
      refine wpIn_rangeV (n := 20) (by omega) (gf := 64) (lb := #[.pointer (some ⟨A, 0, none⟩)]) rfl enters_ops
        (ops_seq (20 - 1) (by omega) A V.heap.size w.heap.size (.slice x2 l.length c2) l (by have := HL.out.1; omega) V) (Below.refl _ _) HI0.out.2.2.size (fun k h => h.elim) (fun _ => rfl)
        (fun pre X => HoB V.heap.size A w.heap.size (.slice x2 l.length c2) l w pre.length X) (fun _ _ _ => False)
        (HoB.stay HG.out.1 (Nat.le_refl _) HG.out.2 (Nat.le_refl _)) (fun _ _ _ _ _ h _ _ => h.elim) (fun pre X h => h.2.1) HI0.out
        (fun x a' _ => ∃ y : Nat → Value, a' = { tmps := #[.slice x0 l.length c0, y 1, .pointer (some ⟨w.heap.size, 0, none⟩), .pointer (some ⟨w.heap.size + 1, 0, none⟩), .pointer (some ⟨w.heap.size + 3, 0, none⟩), y 5, y 6, .func (.func 64) #[] #[.pointer (some ⟨A, 0, none⟩)], .int .i64 (pos l x : Nat), .int .u8 (opB l x : Nat), y 10, y 11, y 12, y 13, y 14, y 15, y 16, y 17, y 18, y 19, y 20, y 21, y 22, y 23, y 24, y 25, y 26, y 27, y 28, y 29, y 30, y 31, y 32, y 33, y 34, y 35, y 36, y 37, y 38, y 39, y 40, y 41, y 42, y 43, y 44, y 45, y 46, y 47, y 48, y 49, y 50, y 51, y 52, y 53, y 54, y 55, y 56, y 57, y 58, y 59, y 60, y 61, y 62, y 63, y 64, y 65, y 66, y 67, y 68, y 69, y 70, y 71, y 72, y 73, y 74], defers := [] })
        (fun x a' _ _ _ _ hs _ _ => hs)
        ?assign ?body ?done ?stop
      case assign =>
        rintro l2 pre x X K _ _ hi hK
        gi_wp2_with fail
        exact hK _ _ (KeptM.refl _ _) (Below.refl _ _) hi (ex_frame10 (by rfl))
      case stop =>
        rintro D c pre X hD _ h hK
        exact h.elim
      case done =>
        rintro D xs X1 hD rfl hi hK
        rw [List.length_range] at hi
        have hN := opsN_spec l
        obtain ⟨⟨a1, a2, a3, a4⟩, _, a7⟩ := hi
        have cN : X1.cell? ⟨w.heap.size + 1, 0, none⟩ = some (.int .i64 (pos l (opsN l) : Nat)) := cell_of_row X1 _ 0 _ _ _ a2
        have cM : X1.cell? ⟨w.heap.size + 3, 0, none⟩ = some (.map (some (w.heap.size + 2))) := cell_of_row X1 _ 0 _ _ _ a4
        have hlen := a3.len (mkF_end l)
        have hge : (l.length : Int) ≤ (pos l (opsN l) : Int) := by omega
        have hdl : decide (l.length ≤ pos l (opsN l)) = true := decide_eq_true hN.1
        have HR := Lib.hid (And.intro a1 (And.intro a7 (And.intro hK (And.intro hD HG.out))))
        clear a1 a2 a3 a4 a7 hK hD HI0 H2 hN
        go_wp2_with (first | (go_at_call 9; refine (works_any10 _).mono ?_; rintro e wz ⟨rfl, hz⟩; have hR := HR.out.1.keep hz; have f0 := frozen_of_row _ _ 0 _ _ hR; have d0 := cell_of_row _ _ 0 _ _ _ hR; have HZ := Lib.hid (And.intro hR hz); clear hz hR) | fail)
        have hz := HZ.out.2
        have hdY : (wz.setCell ⟨w.heap.size, 0, none⟩ (.bool true)).heap[D]? = some (.deferred (some [])) := (Below.heap_setCell wz ⟨w.heap.size, 0, none⟩ _ D (by have := HR.out; simp; omega)).trans ((hz.block D (Array.getElem?_eq_some_iff.1 HR.out.2.2.1).1).trans HR.out.2.2.1)
        have bY : Blk (wz.setCell ⟨w.heap.size, 0, none⟩ (.bool true)) w.heap.size 4 #[.bool true] := heap_setCell_same wz _ 0 _ _ _ HZ.out.1
        have hBY : Below w.heap.size w (wz.setCell ⟨w.heap.size, 0, none⟩ (.bool true)) := (bstep HR.out.2.1 hz).setCell (p := ⟨w.heap.size, 0, none⟩) (by simp) _
        obtain ⟨Y9, hY9⟩ : ∃ Y9, wz.setCell ⟨w.heap.size, 0, none⟩ (.bool true) = Y9 := ⟨_, rfl⟩
        rw [hY9] at hdY bY hBY ⊢
        have bY2 : Blk (Y9.putObj D (.deferred none)) w.heap.size 4 #[.bool true] := bY.kept (grownBy_putObj' Y9 D _) (by intro e; have := HR.out; injection e with e; omega)
        have q0 := cell_of_row _ _ 0 _ _ _ bY2
        refine ⟨by simp, .inl ⟨_, _, rfl, run_takeDeferred hdY, ?_⟩⟩
        exact ⟨.bool true, by simp [results, Tryd.results8, go_sem, q0], rfl, hBY.trans (below_put Y9 _ (by have := HR.out; omega))⟩
      case body =>
        rintro l2 pre x a' X hl2 ⟨rfl, hx⟩ hlo hi ⟨y, rfl⟩
        rw [List.length_range] at hi
        clear HI0 H2 hlo hl2
        have h256 : opB l x < 256 := opB_lt HL.out.2.2 x
        have hxN : x < opsN l := hx
        have hp := opsN_lt.1 hx
        have hps : pos l x < 300 := by have := HL.out.1; omega
        have hz32 := szO_le (opB l x)
        have HF := Lib.hid hi
        by_cases hqq : opB l x = 91
        · cases hisb : isO (opB l x)
          · have hpx : (pos l (x + 1) : Int) = (pos l x : Int) + 1 := by
              show ((pos l x + 1 + szO (opB l x) : Nat) : Int) = _
              rw [szO_not _ h256 hisb]; omega
            have hq : opB l x = 91 := by assumption
            have hqI : ((opB l x : Int) == 91) = true := by rw [hq]; rfl
            have hmk : mkF l x (pos l x) = true := by rw [mkF_at hxN]; rw [hq]; rfl
            have HI := Lib.hid (info_any (opB l x) h256 X)
            rw [hisb] at HI
            unfold oiC at HI
            rw [oi_szO _ h256] at HI
            generalize (oi (opB l x)).i = xi at HI
            generalize (oi (opB l x)).o = xo at HI
            generalize (oi (opB l x)).g = xg at HI
            generalize (oi (opB l x)).q = xq at HI
            generalize (oi (opB l x)).nm = xn at HI
            generalize (⟨xn.toArray⟩ : ByteArray) = z at HI
            have HMK := Lib.hid hmk
            clear hmk hq hqq hi
            gi_wp2_with fail
            refine ⟨trivial, ?_⟩
            refine (callsIn_wide.2 HI.out).mono ?_
            rintro e U ⟨rfl, h1⟩
            have kI : Blk (U.alloc (.cells #[.string z, .int .i64 (xi : Nat), .int .i64 (xo : Nat), .int .u64 (xg : Nat), .bool xq, .int .i64 (szO (opB l x) : Nat)] 25)) U.heap.size 25 #[.string z, .int .i64 (xi : Nat), .int .i64 (xo : Nat), .int .u64 (xg : Nat), .bool xq, .int .i64 (szO (opB l x) : Nat)] := Blk.new U _ _
            have hXV : Below X.heap.size X (U.alloc (.cells #[.string z, .int .i64 (xi : Nat), .int .i64 (xo : Nat), .int .u64 (xg : Nat), .bool xq, .int .i64 (szO (opB l x) : Nat)] 25)) := balloc h1 _
            have H1 := Lib.hid hXV
            have kU : U.heap.size < (U.alloc (.cells #[.string z, .int .i64 (xi : Nat), .int .i64 (xo : Nat), .int .u64 (xg : Nat), .bool xq, .int .i64 (szO (opB l x) : Nat)] 25)).heap.size := kI.lt
            have kX : X.heap.size ≤ U.heap.size := h1.size
            obtain ⟨⟨a1, a2, a3, a4⟩, _, _⟩ := HF.out
            have b2 := a2.keep hXV
            have b3 := a3.keep hXV
            have b4 := a4.keep hXV
            have cN : ((U.alloc (.cells #[.string z, .int .i64 (xi : Nat), .int .i64 (xo : Nat), .int .u64 (xg : Nat), .bool xq, .int .i64 (szO (opB l x) : Nat)] 25))).cell? ⟨w.heap.size + 1, 0, none⟩ = some (.int .i64 (pos l x : Nat)) := cell_of_row (U.alloc (.cells #[.string z, .int .i64 (xi : Nat), .int .i64 (xo : Nat), .int .u64 (xg : Nat), .bool xq, .int .i64 (szO (opB l x) : Nat)] 25)) _ 0 _ _ _ b2
            have cM : ((U.alloc (.cells #[.string z, .int .i64 (xi : Nat), .int .i64 (xo : Nat), .int .u64 (xg : Nat), .bool xq, .int .i64 (szO (opB l x) : Nat)] 25))).cell? ⟨w.heap.size + 3, 0, none⟩ = some (.map (some (w.heap.size + 2))) := cell_of_row (U.alloc (.cells #[.string z, .int .i64 (xi : Nat), .int .i64 (xo : Nat), .int .u64 (xg : Nat), .bool xq, .int .i64 (szO (opB l x) : Nat)] 25)) _ 0 _ _ _ b4
            have hlook := b3.look (pos l x) (by omega)
            rw [HMK.out] at hlook
            obtain ⟨Y, hdel, hY1, hY2, hY3⟩ := b3.del (pos l x) (by omega)
            rw [mkF_step] at hY1
            have c2 := b2.kept hY2 (by intro e; injection e with e; omega)
            have cI := kI.kept hY2 (by intro e; injection e with e; have := a3.lt; omega)
            have dN : Y.cell? ⟨w.heap.size + 1, 0, none⟩ = some (.int .i64 (pos l x : Nat)) := cell_of_row Y _ 0 _ _ _ c2
            have fN := frozen_of_row Y _ 0 _ _ c2
            have k2 : Blk (Y.setCell ⟨w.heap.size + 1, 0, none⟩ (.int .i64 ((pos l x : Int) + 1))) (w.heap.size + 1) 3 #[.int .i64 ((pos l x : Int) + 1)] := heap_setCell_same Y _ 0 _ _ _ c2
            have g2 := grown_set' (grown_refl Y (w.heap.size + 1)) 0 (.int .i64 ((pos l x : Int) + 1))
            have kI2 := cI.kept g2 (by intro e; injection e with e; have := a4.lt; omega)
            have eN : (Y.setCell ⟨w.heap.size + 1, 0, none⟩ (.int .i64 ((pos l x : Int) + 1))).cell? ⟨w.heap.size + 1, 0, none⟩ = some (.int .i64 ((pos l x : Int) + 1)) := cell_of_row _ _ 0 _ _ _ k2
            have fN2 := frozen_of_row _ _ 0 _ _ k2
            have eS : (Y.setCell ⟨w.heap.size + 1, 0, none⟩ (.int .i64 ((pos l x : Int) + 1))).cell? ⟨U.heap.size, 5, none⟩ = some (.int .i64 (szO (opB l x) : Nat)) := cell_of_row _ _ 5 _ _ _ kI2
            have hw1 : IntKind.i64.wrap ((pos l x : Int) + 1) = (pos l x : Int) + 1 := IntWalk.i64_in _ (by omega)
            have hw2 : IntKind.i64.wrap ((pos l x : Int) + 1 + (szO (opB l x) : Int)) = (pos l x : Int) + 1 + (szO (opB l x) : Int) := IntWalk.i64_in _ (by omega)
            have HY := Lib.hid (And.intro hY1 (And.intro hY2 (And.intro k2 g2)))
            clear kI hXV a1 a2 a3 a4 b2 b3 b4 hY1 hY2 hY3 c2 cI k2 g2 kI2 kU kX h1
            gi_wp2_with fail
            have k3 : Blk (Y.setCell ⟨w.heap.size + 1, 0, none⟩ (.int .i64 ((pos l x : Int) + 1))) (w.heap.size + 1) 3 #[.int .i64 (pos l (x + 1) : Nat)] := by
              rw [hpx]
              exact HY.out.2.2.1
            obtain ⟨e1, e2, e3⟩ := HF.out.next (k := x) H1.out HY.out.1 HY.out.2.1 HY.out.2.2.2 k3 HG.out.1
            exact ⟨e1, e2, by show HoB _ _ _ _ _ _ (List.range x ++ [x]).length _; rw [List.length_append, List.length_range]; exact e3⟩
          · have hpx : (pos l (x + 1) : Int) = (pos l x : Int) + 1 + (szO (opB l x) : Int) := by
              show ((pos l x + 1 + szO (opB l x) : Nat) : Int) = _
              omega
            have hq : opB l x = 91 := by assumption
            have hqI : ((opB l x : Int) == 91) = true := by rw [hq]; rfl
            have hmk : mkF l x (pos l x) = true := by rw [mkF_at hxN]; rw [hq]; rfl
            have HI := Lib.hid (info_any (opB l x) h256 X)
            rw [hisb] at HI
            unfold oiC at HI
            rw [oi_szO _ h256] at HI
            generalize (oi (opB l x)).i = xi at HI
            generalize (oi (opB l x)).o = xo at HI
            generalize (oi (opB l x)).g = xg at HI
            generalize (oi (opB l x)).q = xq at HI
            generalize (oi (opB l x)).nm = xn at HI
            generalize (⟨xn.toArray⟩ : ByteArray) = z at HI
            have HMK := Lib.hid hmk
            clear hmk hq hqq hi
            gi_wp2_with fail
            refine ⟨trivial, ?_⟩
            refine (callsIn_wide.2 HI.out).mono ?_
            rintro e U ⟨rfl, h1⟩
            have kI : Blk (U.alloc (.cells #[.string z, .int .i64 (xi : Nat), .int .i64 (xo : Nat), .int .u64 (xg : Nat), .bool xq, .int .i64 (szO (opB l x) : Nat)] 25)) U.heap.size 25 #[.string z, .int .i64 (xi : Nat), .int .i64 (xo : Nat), .int .u64 (xg : Nat), .bool xq, .int .i64 (szO (opB l x) : Nat)] := Blk.new U _ _
            have hXV : Below X.heap.size X (U.alloc (.cells #[.string z, .int .i64 (xi : Nat), .int .i64 (xo : Nat), .int .u64 (xg : Nat), .bool xq, .int .i64 (szO (opB l x) : Nat)] 25)) := balloc h1 _
            have H1 := Lib.hid hXV
            have kU : U.heap.size < (U.alloc (.cells #[.string z, .int .i64 (xi : Nat), .int .i64 (xo : Nat), .int .u64 (xg : Nat), .bool xq, .int .i64 (szO (opB l x) : Nat)] 25)).heap.size := kI.lt
            have kX : X.heap.size ≤ U.heap.size := h1.size
            obtain ⟨⟨a1, a2, a3, a4⟩, _, _⟩ := HF.out
            have b2 := a2.keep hXV
            have b3 := a3.keep hXV
            have b4 := a4.keep hXV
            have cN : ((U.alloc (.cells #[.string z, .int .i64 (xi : Nat), .int .i64 (xo : Nat), .int .u64 (xg : Nat), .bool xq, .int .i64 (szO (opB l x) : Nat)] 25))).cell? ⟨w.heap.size + 1, 0, none⟩ = some (.int .i64 (pos l x : Nat)) := cell_of_row (U.alloc (.cells #[.string z, .int .i64 (xi : Nat), .int .i64 (xo : Nat), .int .u64 (xg : Nat), .bool xq, .int .i64 (szO (opB l x) : Nat)] 25)) _ 0 _ _ _ b2
            have cM : ((U.alloc (.cells #[.string z, .int .i64 (xi : Nat), .int .i64 (xo : Nat), .int .u64 (xg : Nat), .bool xq, .int .i64 (szO (opB l x) : Nat)] 25))).cell? ⟨w.heap.size + 3, 0, none⟩ = some (.map (some (w.heap.size + 2))) := cell_of_row (U.alloc (.cells #[.string z, .int .i64 (xi : Nat), .int .i64 (xo : Nat), .int .u64 (xg : Nat), .bool xq, .int .i64 (szO (opB l x) : Nat)] 25)) _ 0 _ _ _ b4
            have hlook := b3.look (pos l x) (by omega)
            rw [HMK.out] at hlook
            obtain ⟨Y, hdel, hY1, hY2, hY3⟩ := b3.del (pos l x) (by omega)
            rw [mkF_step] at hY1
            have c2 := b2.kept hY2 (by intro e; injection e with e; omega)
            have cI := kI.kept hY2 (by intro e; injection e with e; have := a3.lt; omega)
            have dN : Y.cell? ⟨w.heap.size + 1, 0, none⟩ = some (.int .i64 (pos l x : Nat)) := cell_of_row Y _ 0 _ _ _ c2
            have fN := frozen_of_row Y _ 0 _ _ c2
            have k2 : Blk (Y.setCell ⟨w.heap.size + 1, 0, none⟩ (.int .i64 ((pos l x : Int) + 1))) (w.heap.size + 1) 3 #[.int .i64 ((pos l x : Int) + 1)] := heap_setCell_same Y _ 0 _ _ _ c2
            have g2 := grown_set' (grown_refl Y (w.heap.size + 1)) 0 (.int .i64 ((pos l x : Int) + 1))
            have kI2 := cI.kept g2 (by intro e; injection e with e; have := a4.lt; omega)
            have eN : (Y.setCell ⟨w.heap.size + 1, 0, none⟩ (.int .i64 ((pos l x : Int) + 1))).cell? ⟨w.heap.size + 1, 0, none⟩ = some (.int .i64 ((pos l x : Int) + 1)) := cell_of_row _ _ 0 _ _ _ k2
            have fN2 := frozen_of_row _ _ 0 _ _ k2
            have eS : (Y.setCell ⟨w.heap.size + 1, 0, none⟩ (.int .i64 ((pos l x : Int) + 1))).cell? ⟨U.heap.size, 5, none⟩ = some (.int .i64 (szO (opB l x) : Nat)) := cell_of_row _ _ 5 _ _ _ kI2
            have hw1 : IntKind.i64.wrap ((pos l x : Int) + 1) = (pos l x : Int) + 1 := IntWalk.i64_in _ (by omega)
            have hw2 : IntKind.i64.wrap ((pos l x : Int) + 1 + (szO (opB l x) : Int)) = (pos l x : Int) + 1 + (szO (opB l x) : Int) := IntWalk.i64_in _ (by omega)
            have HY := Lib.hid (And.intro hY1 (And.intro hY2 (And.intro k2 g2)))
            clear kI hXV a1 a2 a3 a4 b2 b3 b4 hY1 hY2 hY3 c2 cI k2 g2 kI2 kU kX h1
            gi_wp2_with fail
            have k3 : Blk ((Y.setCell ⟨w.heap.size + 1, 0, none⟩ (.int .i64 ((pos l x : Int) + 1))).setCell ⟨w.heap.size + 1, 0, none⟩ (.int .i64 ((pos l x : Int) + 1 + (szO (opB l x) : Int)))) (w.heap.size + 1) 3 #[.int .i64 (pos l (x + 1) : Nat)] := by
              rw [hpx]
              exact heap_setCell_same _ _ 0 _ _ _ HY.out.2.2.1
            have g3 := grown_set' HY.out.2.2.2 0 (.int .i64 ((pos l x : Int) + 1 + (szO (opB l x) : Int)))
            obtain ⟨e1, e2, e3⟩ := HF.out.next (k := x) H1.out HY.out.1 HY.out.2.1 g3 k3 HG.out.1
            exact ⟨e1, e2, by show HoB _ _ _ _ _ _ (List.range x ++ [x]).length _; rw [List.length_append, List.length_range]; exact e3⟩
        · cases hisb : isO (opB l x)
          · have hpx : (pos l (x + 1) : Int) = (pos l x : Int) + 1 := by
              show ((pos l x + 1 + szO (opB l x) : Nat) : Int) = _
              rw [szO_not _ h256 hisb]; omega
            have hq : opB l x ≠ 91 := by assumption
            have hqI : ((opB l x : Int) == 91) = false := by rw [beq_eq_false_iff_ne]; omega
            have hmk : mkF l x (pos l x) = false := by rw [mkF_at hxN]; rw [beq_eq_false_iff_ne]; exact hq
            have HI := Lib.hid (info_any (opB l x) h256 X)
            rw [hisb] at HI
            unfold oiC at HI
            rw [oi_szO _ h256] at HI
            generalize (oi (opB l x)).i = xi at HI
            generalize (oi (opB l x)).o = xo at HI
            generalize (oi (opB l x)).g = xg at HI
            generalize (oi (opB l x)).q = xq at HI
            generalize (oi (opB l x)).nm = xn at HI
            generalize (⟨xn.toArray⟩ : ByteArray) = z at HI
            have HMK := Lib.hid hmk
            clear hmk hq hqq hi
            gi_wp2_with fail
            refine ⟨trivial, ?_⟩
            refine (callsIn_wide.2 HI.out).mono ?_
            rintro e U ⟨rfl, h1⟩
            have kI : Blk (U.alloc (.cells #[.string z, .int .i64 (xi : Nat), .int .i64 (xo : Nat), .int .u64 (xg : Nat), .bool xq, .int .i64 (szO (opB l x) : Nat)] 25)) U.heap.size 25 #[.string z, .int .i64 (xi : Nat), .int .i64 (xo : Nat), .int .u64 (xg : Nat), .bool xq, .int .i64 (szO (opB l x) : Nat)] := Blk.new U _ _
            have hXV : Below X.heap.size X (U.alloc (.cells #[.string z, .int .i64 (xi : Nat), .int .i64 (xo : Nat), .int .u64 (xg : Nat), .bool xq, .int .i64 (szO (opB l x) : Nat)] 25)) := balloc h1 _
            have H1 := Lib.hid hXV
            have kU : U.heap.size < (U.alloc (.cells #[.string z, .int .i64 (xi : Nat), .int .i64 (xo : Nat), .int .u64 (xg : Nat), .bool xq, .int .i64 (szO (opB l x) : Nat)] 25)).heap.size := kI.lt
            have kX : X.heap.size ≤ U.heap.size := h1.size
            obtain ⟨⟨a1, a2, a3, a4⟩, _, _⟩ := HF.out
            have b2 := a2.keep hXV
            have b3 := a3.keep hXV
            have b4 := a4.keep hXV
            have cN : ((U.alloc (.cells #[.string z, .int .i64 (xi : Nat), .int .i64 (xo : Nat), .int .u64 (xg : Nat), .bool xq, .int .i64 (szO (opB l x) : Nat)] 25))).cell? ⟨w.heap.size + 1, 0, none⟩ = some (.int .i64 (pos l x : Nat)) := cell_of_row (U.alloc (.cells #[.string z, .int .i64 (xi : Nat), .int .i64 (xo : Nat), .int .u64 (xg : Nat), .bool xq, .int .i64 (szO (opB l x) : Nat)] 25)) _ 0 _ _ _ b2
            have cM : ((U.alloc (.cells #[.string z, .int .i64 (xi : Nat), .int .i64 (xo : Nat), .int .u64 (xg : Nat), .bool xq, .int .i64 (szO (opB l x) : Nat)] 25))).cell? ⟨w.heap.size + 3, 0, none⟩ = some (.map (some (w.heap.size + 2))) := cell_of_row (U.alloc (.cells #[.string z, .int .i64 (xi : Nat), .int .i64 (xo : Nat), .int .u64 (xg : Nat), .bool xq, .int .i64 (szO (opB l x) : Nat)] 25)) _ 0 _ _ _ b4
            have hlook := b3.look (pos l x) (by omega)
            rw [HMK.out] at hlook
            obtain ⟨Y, hdel, hY1, hY2, hY3⟩ := b3.del (pos l x) (by omega)
            rw [mkF_step] at hY1
            have c2 := b2.kept hY2 (by intro e; injection e with e; omega)
            have cI := kI.kept hY2 (by intro e; injection e with e; have := a3.lt; omega)
            have dN : Y.cell? ⟨w.heap.size + 1, 0, none⟩ = some (.int .i64 (pos l x : Nat)) := cell_of_row Y _ 0 _ _ _ c2
            have fN := frozen_of_row Y _ 0 _ _ c2
            have k2 : Blk (Y.setCell ⟨w.heap.size + 1, 0, none⟩ (.int .i64 ((pos l x : Int) + 1))) (w.heap.size + 1) 3 #[.int .i64 ((pos l x : Int) + 1)] := heap_setCell_same Y _ 0 _ _ _ c2
            have g2 := grown_set' (grown_refl Y (w.heap.size + 1)) 0 (.int .i64 ((pos l x : Int) + 1))
            have kI2 := cI.kept g2 (by intro e; injection e with e; have := a4.lt; omega)
            have eN : (Y.setCell ⟨w.heap.size + 1, 0, none⟩ (.int .i64 ((pos l x : Int) + 1))).cell? ⟨w.heap.size + 1, 0, none⟩ = some (.int .i64 ((pos l x : Int) + 1)) := cell_of_row _ _ 0 _ _ _ k2
            have fN2 := frozen_of_row _ _ 0 _ _ k2
            have eS : (Y.setCell ⟨w.heap.size + 1, 0, none⟩ (.int .i64 ((pos l x : Int) + 1))).cell? ⟨U.heap.size, 5, none⟩ = some (.int .i64 (szO (opB l x) : Nat)) := cell_of_row _ _ 5 _ _ _ kI2
            have hw1 : IntKind.i64.wrap ((pos l x : Int) + 1) = (pos l x : Int) + 1 := IntWalk.i64_in _ (by omega)
            have hw2 : IntKind.i64.wrap ((pos l x : Int) + 1 + (szO (opB l x) : Int)) = (pos l x : Int) + 1 + (szO (opB l x) : Int) := IntWalk.i64_in _ (by omega)
            have HY := Lib.hid (And.intro hY1 (And.intro hY2 (And.intro k2 g2)))
            clear kI hXV a1 a2 a3 a4 b2 b3 b4 hY1 hY2 hY3 c2 cI k2 g2 kI2 kU kX h1
            gi_wp2_with fail
            have k3 : Blk (Y.setCell ⟨w.heap.size + 1, 0, none⟩ (.int .i64 ((pos l x : Int) + 1))) (w.heap.size + 1) 3 #[.int .i64 (pos l (x + 1) : Nat)] := by
              rw [hpx]
              exact HY.out.2.2.1
            obtain ⟨e1, e2, e3⟩ := HF.out.next (k := x) H1.out HY.out.1 HY.out.2.1 HY.out.2.2.2 k3 HG.out.1
            exact ⟨e1, e2, by show HoB _ _ _ _ _ _ (List.range x ++ [x]).length _; rw [List.length_append, List.length_range]; exact e3⟩
          · have hpx : (pos l (x + 1) : Int) = (pos l x : Int) + 1 + (szO (opB l x) : Int) := by
              show ((pos l x + 1 + szO (opB l x) : Nat) : Int) = _
              omega
            have hq : opB l x ≠ 91 := by assumption
            have hqI : ((opB l x : Int) == 91) = false := by rw [beq_eq_false_iff_ne]; omega
            have hmk : mkF l x (pos l x) = false := by rw [mkF_at hxN]; rw [beq_eq_false_iff_ne]; exact hq
            have HI := Lib.hid (info_any (opB l x) h256 X)
            rw [hisb] at HI
            unfold oiC at HI
            rw [oi_szO _ h256] at HI
            generalize (oi (opB l x)).i = xi at HI
            generalize (oi (opB l x)).o = xo at HI
            generalize (oi (opB l x)).g = xg at HI
            generalize (oi (opB l x)).q = xq at HI
            generalize (oi (opB l x)).nm = xn at HI
            generalize (⟨xn.toArray⟩ : ByteArray) = z at HI
            have HMK := Lib.hid hmk
            clear hmk hq hqq hi
            gi_wp2_with fail
            refine ⟨trivial, ?_⟩
            refine (callsIn_wide.2 HI.out).mono ?_
            rintro e U ⟨rfl, h1⟩
            have kI : Blk (U.alloc (.cells #[.string z, .int .i64 (xi : Nat), .int .i64 (xo : Nat), .int .u64 (xg : Nat), .bool xq, .int .i64 (szO (opB l x) : Nat)] 25)) U.heap.size 25 #[.string z, .int .i64 (xi : Nat), .int .i64 (xo : Nat), .int .u64 (xg : Nat), .bool xq, .int .i64 (szO (opB l x) : Nat)] := Blk.new U _ _
            have hXV : Below X.heap.size X (U.alloc (.cells #[.string z, .int .i64 (xi : Nat), .int .i64 (xo : Nat), .int .u64 (xg : Nat), .bool xq, .int .i64 (szO (opB l x) : Nat)] 25)) := balloc h1 _
            have H1 := Lib.hid hXV
            have kU : U.heap.size < (U.alloc (.cells #[.string z, .int .i64 (xi : Nat), .int .i64 (xo : Nat), .int .u64 (xg : Nat), .bool xq, .int .i64 (szO (opB l x) : Nat)] 25)).heap.size := kI.lt
            have kX : X.heap.size ≤ U.heap.size := h1.size
            obtain ⟨⟨a1, a2, a3, a4⟩, _, _⟩ := HF.out
            have b2 := a2.keep hXV
            have b3 := a3.keep hXV
            have b4 := a4.keep hXV
            have cN : ((U.alloc (.cells #[.string z, .int .i64 (xi : Nat), .int .i64 (xo : Nat), .int .u64 (xg : Nat), .bool xq, .int .i64 (szO (opB l x) : Nat)] 25))).cell? ⟨w.heap.size + 1, 0, none⟩ = some (.int .i64 (pos l x : Nat)) := cell_of_row (U.alloc (.cells #[.string z, .int .i64 (xi : Nat), .int .i64 (xo : Nat), .int .u64 (xg : Nat), .bool xq, .int .i64 (szO (opB l x) : Nat)] 25)) _ 0 _ _ _ b2
            have cM : ((U.alloc (.cells #[.string z, .int .i64 (xi : Nat), .int .i64 (xo : Nat), .int .u64 (xg : Nat), .bool xq, .int .i64 (szO (opB l x) : Nat)] 25))).cell? ⟨w.heap.size + 3, 0, none⟩ = some (.map (some (w.heap.size + 2))) := cell_of_row (U.alloc (.cells #[.string z, .int .i64 (xi : Nat), .int .i64 (xo : Nat), .int .u64 (xg : Nat), .bool xq, .int .i64 (szO (opB l x) : Nat)] 25)) _ 0 _ _ _ b4
            have hlook := b3.look (pos l x) (by omega)
            rw [HMK.out] at hlook
            obtain ⟨Y, hdel, hY1, hY2, hY3⟩ := b3.del (pos l x) (by omega)
            rw [mkF_step] at hY1
            have c2 := b2.kept hY2 (by intro e; injection e with e; omega)
            have cI := kI.kept hY2 (by intro e; injection e with e; have := a3.lt; omega)
            have dN : Y.cell? ⟨w.heap.size + 1, 0, none⟩ = some (.int .i64 (pos l x : Nat)) := cell_of_row Y _ 0 _ _ _ c2
            have fN := frozen_of_row Y _ 0 _ _ c2
            have k2 : Blk (Y.setCell ⟨w.heap.size + 1, 0, none⟩ (.int .i64 ((pos l x : Int) + 1))) (w.heap.size + 1) 3 #[.int .i64 ((pos l x : Int) + 1)] := heap_setCell_same Y _ 0 _ _ _ c2
            have g2 := grown_set' (grown_refl Y (w.heap.size + 1)) 0 (.int .i64 ((pos l x : Int) + 1))
            have kI2 := cI.kept g2 (by intro e; injection e with e; have := a4.lt; omega)
            have eN : (Y.setCell ⟨w.heap.size + 1, 0, none⟩ (.int .i64 ((pos l x : Int) + 1))).cell? ⟨w.heap.size + 1, 0, none⟩ = some (.int .i64 ((pos l x : Int) + 1)) := cell_of_row _ _ 0 _ _ _ k2
            have fN2 := frozen_of_row _ _ 0 _ _ k2
            have eS : (Y.setCell ⟨w.heap.size + 1, 0, none⟩ (.int .i64 ((pos l x : Int) + 1))).cell? ⟨U.heap.size, 5, none⟩ = some (.int .i64 (szO (opB l x) : Nat)) := cell_of_row _ _ 5 _ _ _ kI2
            have hw1 : IntKind.i64.wrap ((pos l x : Int) + 1) = (pos l x : Int) + 1 := IntWalk.i64_in _ (by omega)
            have hw2 : IntKind.i64.wrap ((pos l x : Int) + 1 + (szO (opB l x) : Int)) = (pos l x : Int) + 1 + (szO (opB l x) : Int) := IntWalk.i64_in _ (by omega)
            have HY := Lib.hid (And.intro hY1 (And.intro hY2 (And.intro k2 g2)))
            clear kI hXV a1 a2 a3 a4 b2 b3 b4 hY1 hY2 hY3 c2 cI k2 g2 kI2 kU kX h1
            gi_wp2_with fail
            have k3 : Blk ((Y.setCell ⟨w.heap.size + 1, 0, none⟩ (.int .i64 ((pos l x : Int) + 1))).setCell ⟨w.heap.size + 1, 0, none⟩ (.int .i64 ((pos l x : Int) + 1 + (szO (opB l x) : Int)))) (w.heap.size + 1) 3 #[.int .i64 (pos l (x + 1) : Nat)] := by
              rw [hpx]
              exact heap_setCell_same _ _ 0 _ _ _ HY.out.2.2.1
            have g3 := grown_set' HY.out.2.2.2 0 (.int .i64 ((pos l x : Int) + 1 + (szO (opB l x) : Int)))
            obtain ⟨e1, e2, e3⟩ := HF.out.next (k := x) H1.out HY.out.1 HY.out.2.1 g3 k3 HG.out.1
            exact ⟨e1, e2, by show HoB _ _ _ _ _ _ (List.range x ++ [x]).length _; rw [List.length_append, List.length_range]; exact e3⟩
end Go.Proofs.YtcdmaapjcckbmaaDoor

/- code's laws: CodeHolds: the argument opened. -/
namespace Go.Proofs.YtcdmaapjcckbmaaDoor
open Go.RowKit Go.ChangeShapes Go.WideShapes Go.ChangeAt

theorem take1 {α : Type} {cs : List α} {i : Nat} {v : α} (h : (cs.drop i).take 1 = [v]) : cs[i]? = some v := by
  have := congrArg (fun l : List α => l[0]?) h
  simpa [List.getElem?_take, List.getElem?_drop] using this
section
variable {H : Type} {enc : TypeId × Value → H} {X : World} {base : Nat} {sp : Nat → Bool} {held : Bool}
set_option maxRecDepth 100000 in
theorem bytes_open {fuel : Nat} {v : Value} {y : DataW H × List MemPlace} (h : DataW.trod enc Tryd.prog X base sp held fuel 32 [v] = some y) :
    ∃ l x c, v = .slice x l.length c ∧ Bto X.heap.size X v l ∧ ∀ n c, v = .slice none n c → c = 0 := by
  have hu : Tryd.prog.underlying 32 = some (.slice 5) := by kernel_rfl
  have hc : Tryd.prog.cellsOf 5 = 1 := by kernel_rfl
  have h8 : Tryd.prog.underlying 5 = some (.int .u8) := by kernel_rfl
  rcases Go.Deep.open_slice1 hu hc h with ⟨h0, _⟩ | ⟨a, len, cap, m, n, V, D, Pl, h0, hb, hl, hm, hmm, hx, hall⟩
  · simp at h0
    subst h0
    exact ⟨[], none, 0, rfl, ⟨by simp, none, 0, rfl, Nat.le_refl _, by simp, fun h => (h rfl).elim⟩, fun n c e => by cases e; rfl⟩
  · simp at h0
    subst h0
    have hlm : len ≤ m := by rw [hmm]; split <;> omega
    have hel : ∀ i, i < len → ∃ q : Nat, q < 256 ∧ X.cell? (a.add i) = some (.int .u8 q) := fun i hi => by
      obtain ⟨h1, h2⟩ := hall i (by omega)
      obtain ⟨z, e, _, hw⟩ := DataW.trod_int h8 h2
      simp at e
      have hz := bounds_u8 hw
      obtain ⟨q, rfl⟩ := Int.eq_ofNat_of_zero_le hz.1
      exact ⟨q, by omega, by rw [h1, e]⟩
    obtain ⟨f, hF⟩ := Go.Deep.choose_lt (α := Nat) (p := fun i q => q < 256 ∧ X.cell? (a.add i) = some (.int .u8 q)) hel
    have hL : ((List.range len).map f).length = len := by simp
    refine ⟨(List.range len).map f, some a, cap, by rw [hL], ⟨fun x hx => ?_, some a, cap, by rw [hL], by rw [hL]; exact hl, by rw [hL]; unfold maxLen at hm; omega, fun hne => ?_⟩, fun n c e => by cases e⟩
    · simp only [List.mem_map, List.mem_range] at hx
      obtain ⟨i, hi, rfl⟩ := hx
      exact (hF i hi).1
    · obtain ⟨b, o, spot⟩ := a
      have h0' : 0 < len := by rw [← hL]; exact List.length_pos_iff.2 hne
      have hspot : spot = none := by simpa [Addr.add] using World.cell?_spot (hF 0 h0').2
      subst hspot
      have hlt : b < X.heap.size := by
        have := World.block_lt_of_cell? X _ (hF 0 h0').2
        simpa [add_plain] using this
      refine ⟨b, o, rfl, hlt, hlt, fun k u hu => ?_⟩
      have hk : k < len := by have := (List.getElem?_eq_some_iff.1 hu).1; rwa [hL] at this
      rw [List.getElem?_map, List.getElem?_range hk] at hu
      cases hu
      have e1 := (hF k hk).2
      rwa [add_plain] at e1
set_option maxRecDepth 100000 in
theorem arg_bytes {r : Reach} {b0 : Nat} {v : Value} {d : DataW H} {p : List MemPlace} (_hv : Value.okWide Tryd.prog X r b0 32 v) (h : DataW.Trod enc Tryd.prog X base sp held 32 v d p) : ∃ l x c, v = .slice x l.length c ∧ Bto X.heap.size X v l ∧ ∀ n c, v = .slice none n c → c = 0 := by
  obtain ⟨x0, l0, c0, rfl⟩ := okWide_slice (show Tryd.prog.underlying 32 = some (.slice 5) by kernel_rfl) _hv
  obtain ⟨fuel, hf⟩ := h
  exact bytes_open (v := .slice x0 l0 c0) hf

end
set_option maxRecDepth 100000 in
theorem holds_all10 {H : Type} {enc : TypeId × Value → H} {X : World} {base : Nat} {sp : Nat → Bool} {held : Bool} {r : Reach} {b0 : Nat} {v0 : Value} {d0 : DataW H} {p0 : List MemPlace} (hv0 : Value.okWide Tryd.prog X r b0 32 v0) (h0 : DataW.Trod enc Tryd.prog X base sp held 32 v0 d0 p0) :
    Calls Tryd.prog 8 #[v0] X fun e w' => e = .returned (.bool true) ∧ Below X.heap.size X w' := by
  obtain ⟨l, x, c, rfl, hl, _⟩ := arg_bytes hv0 h0
  exact holds_walk10 X.heap.size _ l X (Nat.le_refl _) hl
end Go.Proofs.YtcdmaapjcckbmaaDoor

