/- Texts laid into one: Qd. -/
import Derived.Test.YtcdmaapjcckbmaaDoorXo
import Derived.Test.YtcdmaapjcckbmaaDoorXj
import Derived.Test.YtcdmaapjcckbmaaDoorXs
import Derived.Deep.LoopGhost
import Derived.Lib.LazyBuf
import Derived.Test.YtcdmaapjcckbmaaDoorQc
import Derived.Sort.QuietTacIn
import Derived.Deep.QuietTactic
import Derived.BigQuiet
import Derived.Lib.MinMax
/- code: the reference: Ops. -/
namespace Go.Proofs.YtcdmaapjcckbmaaDoor
open Go.RowKit Go.Shelf

theorem oi_z : ∀ n : Fin 256, (oi n.val).z = szO n.val := by decide +kernel
def plK (l : List Nat) (k : Nat) : List Nat := (List.range k).map (pos l)
theorem plK_len (l : List Nat) (k : Nat) : (plK l k).length = k := by simp [plK]
theorem plK_next (l : List Nat) (k : Nat) : plK l (k + 1) = plK l k ++ [pos l k] := by
  unfold plK; rw [List.range_succ, List.map_append]; rfl
theorem grown_own {X Y : World} {o : Option Nat} {B : Nat} (h : X.grownBy Y o) (ho : ∀ k, o = some k → B ≤ k) (hB : B ≤ X.heap.size) : Below B X Y :=
  ⟨h.os, h.tape, h.output, h.size, fun k hk => h.block k (by omega) (fun e => by have := ho k e.symm; omega)⟩
theorem field_z (a0 a1 a2 a3 a4 : Value) (z : Int) (w : World) : (Instr.field 25 (.agg #[a0, a1, a2, a3, a4, .int .i64 z]) 5).run Tryd.prog w = .ok (.int .i64 z) w := by kernel_rfl
set_option maxRecDepth 100000 in
set_option maxHeartbeats 4000000 in
theorem rops_any (B : Nat) (v : Value) (l : List Nat) (hl : l.length ≤ 1000) (w : World) (hB : B ≤ w.heap.size) (hv : Bto B w v l) : Calls Tryd.prog 14 #[v] w fun e w' => ∃ y c, e = .returned (.slice y (plL l).length c) ∧ OwI w' w.heap.size (.slice y (plL l).length c) (plL l) ∧ Below w.heap.size w w' := by
  obtain ⟨x0, c0, rfl⟩ : ∃ x0 c0, v = .slice x0 l.length c0 := by obtain ⟨_, x, c, h, _⟩ := hv; exact ⟨x, c, h⟩
  have HV := Lib.hid hv
  have HL := Lib.hid (And.intro hl hB)
  clear hv hl hB
  go_enter Tryd.func14, Tryd.ntmps14
  go_wp2_with fail
  go_loopg [3, 4] (opsN l) (fun g t3 t4 wr => ∃ k y c, g + k = opsN l ∧ t3 = .slice y (plK l k).length c ∧ t4 = .int .i64 (pos l k : Nat) ∧ OwI wr w.heap.size (.slice y (plK l k).length c) (plK l k) ∧ Below w.heap.size w wr)
  case atStart => exact ⟨0, none, 0, rfl, rfl, rfl, World.ownsRow_nil _ _ _ _, Below.refl _ _⟩
  case round =>
    obtain ⟨k, y, c, hk, rfl, rfl, hO, hW⟩ := hrel
    have hV := HV.out.kept hW.size (fun b hb h2 => hW.block b h2)
    by_cases hlt : pos l k < l.length
    · have hkn := opsN_lt.2 hlt
      obtain ⟨_, x, c', hx, h3, h4, h5⟩ := hV
      obtain ⟨b, o, e, hbB, hbX, hc⟩ := h5 (by intro e; rw [e] at hlt; simp at hlt)
      injection hx with hx1 hx2 hx3
      subst hx1
      subst hx3
      subst e
      have hcb := hc _ _ (opB_at hlt)
      have hob : opB l k < 256 := HV.out.1 _ (List.mem_of_getElem? (opB_at hlt))
      have hz := oi_z ⟨opB l k, hob⟩
      simp only at hz
      have hps : pos l (k + 1) = pos l k + 1 + szO (opB l k) := rfl
      have hsz := szO_le (opB l k)
      have hpI : (pos l k : Int) < (l.length : Int) := by omega
      have hp0 : (0 : Int) ≤ (pos l k : Int) := by omega
      have g1 : IntKind.i64.wrap ((pos l k : Int) + 1) = ((pos l k + 1 : Nat) : Int) := by rw [IntWalk.i64_in _ (by have := HL.out; omega)]; omega
      have g2 : IntKind.i64.wrap ((pos l k : Int) + 1 + ((szO (opB l k) : Nat) : Int)) = ((pos l (k + 1) : Nat) : Int) := by rw [IntWalk.i64_in _ (by have := HL.out; omega), hps]; omega
      have hwr := hW.size
      have hkl : k ≤ 1000 := by have := (opsN_spec l).2.1; have := HL.out.1; omega
      obtain ⟨y2, c2, w2, hrun, hO2, hG2⟩ := app_int wr w.heap.size _ (plK l k) (pos l k) 33 hO hwr (by rw [plK_len]; omega)
      rw [← plK_next] at hrun hO2
      have hB2 : Below w.heap.size (wr.alloc (.cells #[.int .i64 (pos l k : Nat)] 3)) w2 := grown_own hG2 (fun q e => (World.ownsRow.lt hO q e).1) (by rw [World.size_alloc]; omega)
      have hW2 := (balloc hW (.cells #[.int .i64 (pos l k : Nat)] 3)).trans hB2
      have hc2 : w2.cell? ⟨b, o + pos l k, none⟩ = some (.int .u8 (opB l k : Nat)) := (cell_heap (p := ⟨b, o + pos l k, none⟩) (((balloc (Below.refl wr.heap.size wr) (.cells #[.int .i64 (pos l k : Nat)] 3)).block b hbX |> fun h => (hB2.block b (by have := HL.out.2; omega)).trans h))).trans hcb
      have HI := Lib.hid (fun w => rinfo_any (opB l k) hob w)
      unfold oiC at HI
      rw [hz] at HI
      have hfl := fun w => field_z (.string ⟨(oi (opB l k)).nm.toArray⟩) (.int .i64 (oi (opB l k)).i) (.int .i64 (oi (opB l k)).o) (.int .u64 (oi (opB l k)).g) (.bool (oi (opB l k)).q) (szO (opB l k) : Nat) w
      have HS := Lib.hid (And.intro hO2 (And.intro hW2 (And.intro hk hkn)))
      clear hO hW hcb hc h3 h4 h5 hx2 hbX hbB hob hz hps hsz hG2 hB2 hO2 hW2 hk hkn hkl hlt
      generalize (plK l k).length = m0 at *
      generalize hm1 : (plK l (k + 1)).length = m1 at *
      go_wp2_with (first
        | (at_builtin; refine wpList_plain rfl fun K hK => ?_; refine wp_app_run (.tmp 18) (.tmp 20) 33 rfl rfl rfl hrun ?_; refine hK _ _ ?_; clear hK K)
        | (go_at_call 11; refine (HI.out _).mono ?_; rintro e w3 ⟨rfl, h3⟩)
        | fail)
      have HE := Lib.hid (And.intro (World.ownsRow.kept HS.out.1 (grown_new h3) (by cases (Value.slice y2 m1 c2).ownBlock <;> simp)) (bstep HS.out.2.1 h3))
      clear h3 hfl hc2 g1 g2 hpI hp0 hwr
      have HK := Lib.hid HS.out.2.2
      clear HS
      go_roundg (gk - 1)
      case measure => have := HK.out; omega
      case rel => exact ⟨k + 1, y2, c2, by have := HK.out; omega, by rw [hm1], rfl, by rw [hm1]; exact HE.out.1, HE.out.2⟩
    · have hpI : ¬ (pos l k : Int) < (l.length : Int) := by omega
      obtain rfl : k = opsN l := by
        rcases Nat.lt_or_ge k (opsN l) with h | h
        · exact absurd (opsN_lt.1 h) hlt
        · omega
      have HE := Lib.hid (And.intro hO hW)
      clear hO hW hV hlt hk
      go_wp2_with fail
      go_ret
      exact ⟨y, c, rfl, HE.out⟩
end Go.Proofs.YtcdmaapjcckbmaaDoor

/- code: the reference: Marks, In. -/
namespace Go.Proofs.YtcdmaapjcckbmaaDoor
open Go.RowKit Go.Shelf

theorem owI_at {X : World} {base c k x : Nat} {y : Option Addr} {L : List Nat} (h : OwI X base (.slice y L.length c) L) (hk : L[k]? = some x) : ∃ g, y = some ⟨g, 0, none⟩ ∧ base ≤ g ∧ g < X.heap.size ∧ X.cell? ⟨g, k, none⟩ = some (.int .i64 (x : Nat)) := by
  have hkl : k < L.length := (List.getElem?_eq_some_iff.1 hk).1
  obtain ⟨g, c2, hv⟩ := Go.Joins.ownsRow_form h (by omega)
  injection hv with hy hn hc
  subst hy
  have hlt := World.ownsRow.lt h g rfl
  refine ⟨g, rfl, hlt.1, hlt.2, ?_⟩
  have := World.ownsRow.cellAt h k (by omega)
  rw [this]
  simp [ivs, hk]
theorem plL_at {l : List Nat} {k : Nat} (h : k < opsN l) : (plL l)[k]? = some (pos l k) := by
  unfold plL
  rw [List.getElem?_map, List.getElem?_range h]
  rfl
theorem plL_len (l : List Nat) : (plL l).length = opsN l := by simp [plL]
set_option maxRecDepth 100000 in
set_option maxHeartbeats 4000000 in
theorem rmarks_any (B : Nat) (v : Value) (l : List Nat) (hl : l.length ≤ 1000) (w : World) (hB : B ≤ w.heap.size) (hv : Bto B w v l) : Calls Tryd.prog 17 #[v] w fun e w' => ∃ y c, e = .returned (.slice y (mkL l).length c) ∧ OwI w' w.heap.size (.slice y (mkL l).length c) (mkL l) ∧ Below w.heap.size w w' := by
  have HR := Lib.hid (rops_any B v l hl w hB hv)
  obtain ⟨x0, c0, rfl⟩ : ∃ x0 c0, v = .slice x0 l.length c0 := by obtain ⟨_, x, c, h, _⟩ := hv; exact ⟨x, c, h⟩
  have HV := Lib.hid hv
  have HL := Lib.hid (And.intro hl hB)
  clear hv hl hB
  go_enter Tryd.func17, Tryd.ntmps17
  go_wp2_with (first
    | (go_at_call 14; refine (HR.out).mono ?_; rintro e w1 ⟨yL, cL, rfl, hL, h1⟩)
    | fail)
  have HM := Lib.hid (And.intro hL (And.intro h1 (And.intro (HV.out.kept h1.size (fun b _ h2 => h1.block b h2)) (Nat.le_trans HL.out.2 h1.size))))
  have hw1 := h1.size
  clear hL h1 HR
  rw [plL_len] at HM ⊢
  go_loopg [3, 5] (opsN l) (fun g t3 t5 wr => ∃ k y c, g + k = opsN l ∧ t3 = .slice y (mkK l k).length c ∧ t5 = .int .i64 (k : Nat) ∧ OwI wr w1.heap.size (.slice y (mkK l k).length c) (mkK l k) ∧ Below w1.heap.size w1 wr)
  case atStart => exact ⟨0, none, 0, rfl, rfl, rfl, World.ownsRow_nil _ _ _ _, Below.refl _ _⟩
  case round =>
    obtain ⟨k, y, c, hk, rfl, rfl, hO, hW⟩ := hrel
    by_cases hlt : k < opsN l
    · have hkI : (k : Int) < (opsN l : Int) := by omega
      have hpl := opsN_lt.1 hlt
      have hkn : k < 1000 := by have := (opsN_spec l).2.1; have := HL.out.1; omega
      obtain ⟨gL, hyL, hgb, hgl, hcL⟩ := owI_at (L := plL l) (k := k) (by rw [plL_len]; exact HM.out.1) (plL_at hlt)
      obtain ⟨_, x, c', hx, h3, h4, h5⟩ := HM.out.2.2.1
      obtain ⟨b, o, e, hbB, hbX, hc⟩ := h5 (by intro e; rw [e] at hpl; simp at hpl)
      injection hx with hx1 hx2 hx3
      subst hx1
      subst hx3
      subst e
      subst hyL
      have cL1 : wr.cell? ⟨gL, k, none⟩ = some (.int .i64 (pos l k : Nat)) := (cell_heap (p := ⟨gL, k, none⟩) (hW.block gL hgl)).trans hcL
      have cb : wr.cell? ⟨b, o + pos l k, none⟩ = some (.int .u8 (opB l k : Nat)) := (cell_heap (p := ⟨b, o + pos l k, none⟩) (hW.block b hbX)).trans (hc _ _ (opB_at hpl))
      have hpI : (pos l k : Int) < (l.length : Int) := by omega
      have hp0 : (0 : Int) ≤ (pos l k : Int) := by omega
      have hk0 : (0 : Int) ≤ (k : Int) := by omega
      have g1 : IntKind.i64.wrap ((k : Int) + 1) = ((k + 1 : Nat) : Int) := by rw [IntWalk.i64_in _ (by omega)]; omega
      have hwr := hW.size
      clear h3 h4 h5 hc hcL hgb hgl hbB hbX hx2 hpl
      by_cases hq : opB l k = 91
      · have hqI : ((opB l k : Int) == 91) = true := by rw [hq]; rfl
        have hml := mkK_len l k
        obtain ⟨y2, c2, w2, hrun, hO2, hG2⟩ := app_int wr w1.heap.size _ (mkK l k) (pos l k) 33 hO hwr (by omega)
        rw [← mkK_hit l k hq] at hrun hO2
        have hB2 : Below w1.heap.size (wr.alloc (.cells #[.int .i64 (pos l k : Nat)] 3)) w2 := grown_own hG2 (fun q e => (World.ownsRow.lt hO q e).1) (by rw [World.size_alloc]; omega)
        have hW2 := (balloc hW (.cells #[.int .i64 (pos l k : Nat)] 3)).trans hB2
        have HE := Lib.hid (And.intro hO2 (And.intro hW2 (And.intro hk hlt)))
        clear hO hW hml hG2 hB2 hO2 hW2 hk hlt hq hwr hkn
        generalize (mkK l k).length = m0 at *
        generalize hm1 : (mkK l (k + 1)).length = m1 at *
        go_wp2_with (first
          | (at_builtin; refine wpList_plain rfl fun K hK => ?_; refine wp_app_run (.tmp 22) (.tmp 27) 33 rfl rfl rfl hrun ?_; refine hK _ _ ?_; clear hK K)
          | fail)
        go_roundg (gk - 1)
        case measure => have := HE.out.2.2; omega
        case rel => exact ⟨k + 1, y2, c2, by have := HE.out.2.2; omega, by rw [hm1], rfl, by rw [hm1]; exact HE.out.1, HE.out.2.1⟩
      · have hqI : ((opB l k : Int) == 91) = false := by rw [beq_eq_false_iff_ne]; omega
        rw [← mkK_miss l k hq] at hO
        have hmm := mkK_miss l k hq
        have HE := Lib.hid (And.intro hO (And.intro hW (And.intro hk hlt)))
        rw [← hmm]
        clear hO hW hk hlt hq hwr hkn hmm
        generalize hm1 : (mkK l (k + 1)).length = m1 at *
        go_wp2_with fail
        go_roundg (gk - 1)
        case measure => have := HE.out.2.2; omega
        case rel => exact ⟨k + 1, y, c, by have := HE.out.2.2; omega, by rw [hm1], rfl, by rw [hm1]; exact HE.out.1, HE.out.2.1⟩
    · obtain rfl : k = opsN l := by omega
      have hkI : ¬ (opsN l : Int) < (opsN l : Int) := by omega
      have HE := Lib.hid (And.intro (hO.mono hw1) ((HM.out.2.1).trans (hW.mono hw1)))
      clear hO hW hlt hk
      go_wp2_with fail
      go_ret
      exact ⟨y, c, rfl, HE.out⟩
end Go.Proofs.YtcdmaapjcckbmaaDoor

/- code: bytes.Clone of any row of bytes, Ops of any code. -/
namespace Go.Proofs.YtcdmaapjcckbmaaDoor
open Go.RowKit Go.Shelf

theorem Bto.monox {B C : Nat} {X : World} {v : Value} {l : List Nat} (h : Bto B X v l) (hB : B ≤ C) : Bto C X v l := by
  obtain ⟨h1, x, c, h2, h3, h4, h5⟩ := h
  exact ⟨h1, x, c, h2, h3, h4, fun hl => by obtain ⟨b, o, e, hb, hx, hc⟩ := h5 hl; exact ⟨b, o, e, Nat.lt_of_lt_of_le hb hB, hx, hc⟩⟩
theorem eqlx_nil (w : World) {t e : TypeId} (a : Option Addr) (n c : Nat) (h : Tryd.prog.underlying t = some (.slice e)) :
    (binOp .eql t (.slice a n c) (.slice none 0 0)).run Tryd.prog w = .ok (.bool a.isNone) w := by
  have h1 := run_equal_slice_nil (P := Tryd.prog) w t e a n c h
  simp only [binOp, Sem.run_bind, h1, Result.andThen_ok, Sem.run_pure]
theorem und_sbx : Tryd.prog.underlying 32 = some (.slice 5) := by kernel_rfl
set_option maxRecDepth 100000 in
set_option maxHeartbeats 2000000 in
theorem xclone_any (B : Nat) (v : Value) (l : List Nat) (hl : l.length ≤ 100000) (w : World) (hv : Bto B w v l) :
    Calls Tryd.prog 39 #[v] w fun e w' => ∃ x c, e = .returned (.slice x l.length c) ∧ Bto w'.heap.size w' (.slice x l.length c) l ∧ Below w.heap.size w w' := by
  obtain ⟨h1, x, c, rfl, h3, h4, h5⟩ := hv
  cases x with
  | none =>
    have hn : l = [] := by
      by_cases h : l = []
      · exact h
      · obtain ⟨b, o, e, _⟩ := h5 h; cases e
    subst hn
    clear h1 h3 h4 h5 hl
    have hnil : ∀ W, (binOp .eql 32 (.slice none ([] : List Nat).length c) (.slice none 0 0)).run Tryd.prog W = .ok (.bool true) W := fun W => eqlx_nil W _ _ _ und_sbx
    simp only [List.length_nil] at hnil
    go_enter Tryd.func39, Tryd.ntmps39
    go_wp2_with fail
    go_ret
    exact ⟨_, _, rfl, ⟨by simp, none, 0, rfl, by simp, by simp, fun h => (h rfl).elim⟩, Below.refl _ _⟩
  | some ad =>
    obtain ⟨i0, hi, hz0, hz1, hz2⟩ := info_parts' infoU8
    have hW := balloc (Below.refl w.heap.size w) (.cells #[] 5)
    have hown : (w.alloc (.cells #[] 5)).ownsRow w.heap.size 5 1 (.slice (some ⟨w.heap.size, 0, none⟩) 0 0) 0 [] := World.ownsRow_made w #[] 0 (Nat.le_refl _) (by unfold maxLen; omega) (by rfl)
    have hcells : ∀ j u, (bvs l)[j]? = some u → (w.alloc (.cells #[] 5)).cell? (ad.add j) = some u := fun j u hj => by
      have hne : l ≠ [] := fun e => by rw [e] at hj; cases hj
      obtain ⟨b, o, e, _, hbX, hc⟩ := h5 hne
      have e2 := Option.some.inj e
      subst e2
      rw [bvs_get] at hj
      cases hmj : l[j]? with
      | none => rw [hmj] at hj; cases hj
      | some z =>
        rw [hmj] at hj
        cases hj
        rw [Go.WideShapes.add_plain, hW.cell (p := ⟨b, o + j, none⟩) hbX]
        exact hc j z hmj
    have HC := Lib.hid (And.intro hcells (And.intro h1 (And.intro h4 hW)))
    have hsz : w.heap.size ≤ (w.alloc (.cells #[] 5)).heap.size := by simp
    have HSZ := Lib.hid hsz
    have hu := und_sbx
    obtain ⟨m, hm⟩ : ∃ m, l.length = m := ⟨_, rfl⟩
    have HM := Lib.hid hm
    rw [hm] at hl h3 ⊢
    clear hcells h1 h4 h5 hm hW hsz
    have hnil : ∀ W, (binOp .eql 32 (.slice (some ad) m c) (.slice none 0 0)).run Tryd.prog W = .ok (.bool false) W := fun W => eqlx_nil W _ _ _ und_sbx
    go_enter Tryd.func39, Tryd.ntmps39
    go_wp2_with (first
      | (at_builtin; refine wpList_append_own _ rfl _ _ 32 rfl w.heap.size 5 i0 (.int .u8 0) 1 1 hu hi hz0 hz1 hz2 rfl (by decide) _ 0 [] rfl hown ad m c (bvs l) rfl (by rw [bvs_len, HM.out, Nat.mul_one]) HC.out.1 (bvs_one l) ?c3 ?c4 HSZ.out ?_)
      | fail)
    case c3 => unfold maxLen; omega
    case c4 => omega
    intro v' w2 hown3 hgrow _
    have hB3 := HC.out.2.2.2.grown hgrow (by simp) (fun r e => by cases e; exact Nat.le_refl _)
    have hO : Ow w2 w.heap.size v' l := ⟨HC.out.2.1, by rw [HM.out]; simpa using hown3⟩
    obtain ⟨z, c3, rfl⟩ := hO.is
    have HO := Lib.hid (And.intro hO hB3)
    clear hown hown3 hgrow hB3 hi hz0 hz1 hz2 hu hO
    rw [HM.out] at HO
    rw [HM.out]
    go_wp2_with fail
    go_ret
    exact ⟨_, _, rfl, by have h := HO.out.1.bt.bto; exact h, HO.out.2⟩
theorem cops_any (B : Nat) (v : Value) (l : List Nat) (hl : l.length ≤ 1000) (w : World) (hv : Bto B w v l) : Calls Tryd.prog 15 #[v] w fun e w' => ∃ A x2 c2, e = .returned (.func (.func 64) #[] #[.pointer (some ⟨A, 0, none⟩)]) ∧ A < w'.heap.size ∧ (Blk w' A 32 #[.slice x2 l.length c2] ∧ Bto w'.heap.size w' (.slice x2 l.length c2) l) ∧ Below w.heap.size w w' := by
  have HC := Lib.hid (xclone_any B v l (by omega) w hv)
  obtain ⟨_, x, c, rfl, _, _, _⟩ := hv
  go_enter Tryd.func15, Tryd.ntmps15
  go_wp2_with (first
    | (go_at_call 39; refine (HC.out).mono ?_; rintro e w1 ⟨x1, c1, rfl, hb1, hw1⟩; have H1 := Lib.hid (And.intro hb1 hw1); clear hb1 hw1)
    | (go_at_call 38; refine (ops_any _ _ _ _).mono ?_; rintro e w2 ⟨rfl, rfl⟩)
    | fail)
  go_ret
  have hW := balloc (Below.refl w1.heap.size w1) (.cells #[.slice x1 l.length c1] 32)
  exact ⟨w1.heap.size, x1, c1, rfl, by rw [World.size_alloc]; omega, ⟨Blk.new w1 _ _, (H1.out.1.new hW).monox hW.size⟩, bstep H1.out.2 hW⟩
end Go.Proofs.YtcdmaapjcckbmaaDoor

/- code: CodeOps' walk. -/
namespace Go.Proofs.YtcdmaapjcckbmaaDoor
open Go.RowKit Go.Shelf
attribute [local go_sem] Oper.semAt_some
theorem ex_frame {T : Array Value} {D : List Deferred} {F : (Nat → Value) → Act} (h : ({ tmps := T, defers := D } : Act) = F (fun i => T.getD i .nilFunc)) : ∃ y, ({ tmps := T, defers := D } : Act) = F y := ⟨_, h⟩
/-- A row of ints that is read, its block below q. -/
def RwI (q : Nat) (X : World) (y : Option Addr) (L : List Nat) : Prop := ∀ k x, L[k]? = some x → ∃ g, y = some ⟨g, 0, none⟩ ∧ g < q ∧ g < X.heap.size ∧ X.cell? ⟨g, k, none⟩ = some (.int .i64 (x : Nat))
theorem RwI.kept {q : Nat} {X Y : World} {y : Option Addr} {L : List Nat} (h : RwI q X y L) (hs : X.heap.size ≤ Y.heap.size) (hk : ∀ b, b < q → b < X.heap.size → Y.heap[b]? = X.heap[b]?) : RwI q Y y L := fun k x hx => by
  obtain ⟨g, e, h1, h2, h3⟩ := h k x hx
  exact ⟨g, e, h1, Nat.lt_of_lt_of_le h2 hs, (cell_heap (p := ⟨g, k, none⟩) (hk g h1 h2)).trans h3⟩
theorem RwI.of_own {X : World} {base c : Nat} {y : Option Addr} {L : List Nat} (h : OwI X base (.slice y L.length c) L) : RwI X.heap.size X y L := fun k x hx => by
  obtain ⟨g, e, _, h2, h3⟩ := owI_at h hx
  exact ⟨g, e, h2, h2, h3⟩
/-- What stands in the law's boxes all the while. -/
def CoE (B q A gW c : Nat) (many : Int) (v v2 : Value) (y : Option Addr) (l : List Nat) (w X : World) : Prop :=
  (Blk X w.heap.size 32 #[v] ∧ Blk X (w.heap.size + 1) 3 #[.int .i64 many] ∧ Blk X (w.heap.size + 1 + 1) 4 #[.bool false] ∧ Blk X gW 33 #[.slice y (opsN l) c]) ∧ Bto B X v l ∧ (Blk X A 32 #[v2] ∧ Bto q X v2 l) ∧ RwI q X y (plL l) ∧ Below w.heap.size w X
theorem CoE.kept {B q A gW c r0 : Nat} {many : Int} {v v2 : Value} {y : Option Addr} {l : List Nat} {w X Y : World} {row : Option Nat} (h : CoE B q A gW c many v v2 y l w X) (hg : X.grownBy Y row) (hq : w.heap.size + 1 + 1 < r0) (hB : B ≤ r0) (hqq : q ≤ r0) (hA : A < r0) (hW : gW < r0) (hr : ∀ r, row = some r → r0 ≤ r) : CoE B q A gW c many v v2 y l w Y := by
  obtain ⟨⟨h1, h2, h3, h4⟩, h5, h6, h7, h8⟩ := h
  have hk : ∀ i, i < r0 → i < X.heap.size → Y.heap[i]? = X.heap[i]? := fun i hi hx => hg.block i hx (fun e => by have := hr i e.symm; omega)
  exact ⟨⟨(hk _ (by omega) h1.lt).trans h1, (hk _ (by omega) h2.lt).trans h2, (hk _ (by omega) h3.lt).trans h3, (hk _ hW h4.lt).trans h4⟩, h5.kept hg.size (fun i hi hx => hk i (by omega) hx), ⟨(hk _ hA h6.1.lt).trans h6.1, h6.2.kept hg.size (fun i hi hx => hk i (by omega) hx)⟩, h7.kept hg.size (fun i hi hx => hk i (by omega) hx), h8.grown hg (h8.size) (fun r e => by have := hr r e; omega)⟩
theorem CoE.new {B q A gW c : Nat} {many : Int} {v v2 : Value} {y : Option Addr} {l : List Nat} {w X Y : World} (h : CoE B q A gW c many v v2 y l w X) (k : Below X.heap.size X Y) : CoE B q A gW c many v v2 y l w Y := by
  obtain ⟨⟨h1, h2, h3, h4⟩, h5, h6, h7, h8⟩ := h
  exact ⟨⟨h1.keep k, h2.keep k, h3.keep k, h4.keep k⟩, h5.new k, ⟨h6.1.keep k, h6.2.new k⟩, h7.kept k.size (fun b _ hx => k.block b hx), bstep h8 k⟩
/-- What stands between two rounds of a turn. -/
def CoB (B q A gW gT gN t c : Nat) (mk : Option Nat) (many : Int) (v v2 : Value) (y : Option Addr) (l : List Nat) (w : World) (m : Nat) (X : World) : Prop :=
  (CoE B q A gW c many v v2 y l w X ∧ Blk X gT 3 #[.int .i64 (t : Nat)] ∧ Blk X gN 3 #[.int .i64 (m : Nat)]) ∧ ∀ d, mk = some d → X.heap[d]? = some (.deferred (some []))
def CoI (B q A gW gT gN t c : Nat) (mk : Option Nat) (many : Int) (v v2 : Value) (y : Option Addr) (l : List Nat) (w : World) (pre : List Nat) (X : World) : Prop :=
  CoB B q A gW gT gN t c mk many v v2 y l w pre.length X ∧ (t = 0 → pre.length = 0 ∨ (pre.length : Int) < many)
def CoX (B q A gW gT gN t c : Nat) (mk : Option Nat) (many : Int) (v v2 : Value) (y : Option Addr) (l : List Nat) (w : World) (e : Code) (pre : List Nat) (X : World) : Prop :=
  CoB B q A gW gT gN t c mk many v v2 y l w pre.length X ∧ (e = .exit 2 ∧ t = 0 ∧ many ≤ pre.length ∧ (pre.length = 1 ∨ (pre.length : Int) - 1 < many))
theorem CoB.kept {B q A gW gT gN t c r0 m : Nat} {mk : Option Nat} {many : Int} {v v2 : Value} {y : Option Addr} {l : List Nat} {w X Y : World} {row : Option Nat} (h : CoB B q A gW gT gN t c mk many v v2 y l w m X) (hg : X.grownBy Y row) (hq : w.heap.size + 1 + 1 < r0) (hB : B ≤ r0) (hqq : q ≤ r0) (hA : A < r0) (hW : gW < r0) (hT : gT < r0) (hN : gN < r0) (hm : ∀ d, mk = some d → d < r0) (hr : ∀ r, row = some r → r0 ≤ r) : CoB B q A gW gT gN t c mk many v v2 y l w m Y := by
  obtain ⟨⟨h1, h2, h3⟩, h4⟩ := h
  have hk : ∀ i, i < r0 → i < X.heap.size → Y.heap[i]? = X.heap[i]? := fun i hi hx => hg.block i hx (fun e => by have := hr i e.symm; omega)
  exact ⟨⟨h1.kept hg hq hB hqq hA hW hr, (hk _ hT h2.lt).trans h2, (hk _ hN h3.lt).trans h3⟩, fun d e => (hk _ (hm d e) (Array.getElem?_eq_some_iff.1 (h4 d e)).1).trans (h4 d e)⟩
theorem CoI.stay {B q A gW gT gN t c D : Nat} {mk : Option Nat} {many : Int} {v v2 : Value} {y : Option Addr} {l : List Nat} {w : World} (hq : w.heap.size + 1 + 1 < D) (hB : B ≤ D) (hqq : q ≤ D) (hA : A < D) (hW : gW < D) (hT : gT < D) (hN : gN < D) (hm : ∀ d, mk = some d → d < D) : StayM (fun k => noM k ∨ k = D ∨ k = D + 1) (CoI B q A gW gT gN t c mk many v v2 y l w) := fun pre X Y row h hw hr =>
  ⟨h.1.kept hw hq hB hqq hA hW hT hN hm (fun r e => by rcases hr r e with h | h | h; exact h.elim; omega; omega), h.2⟩
theorem CoX.stay {B q A gW gT gN t c D : Nat} {mk : Option Nat} {many : Int} {v v2 : Value} {y : Option Addr} {l : List Nat} {w : World} (hq : w.heap.size + 1 + 1 < D) (hB : B ≤ D) (hqq : q ≤ D) (hA : A < D) (hW : gW < D) (hT : gT < D) (hN : gN < D) (hm : ∀ d, mk = some d → d < D) (e : Code) : StayM (fun k => noM k ∨ k = D ∨ k = D + 1) (CoX B q A gW gT gN t c mk many v v2 y l w e) := fun pre X Y row h hw hr =>
  ⟨h.1.kept hw hq hB hqq hA hW hT hN hm (fun r e => by rcases hr r e with h | h | h; exact h.elim; omega; omega), h.2⟩
/-- A turn's count, written. -/
theorem CoB.count {B q A gW gT gN t c m : Nat} {mk : Option Nat} {many : Int} {v v2 : Value} {y : Option Addr} {l : List Nat} {w X : World} (h : CoB B q A gW gT gN t c mk many v v2 y l w m X) (hq : w.heap.size + 1 + 1 < gN) (hB : B ≤ gN) (hqq : q ≤ gN) (hA : A < gN) (hW : gW < gN) (hT : gT < gN) (hm : ∀ d, mk = some d → d < gN) :
    CoB B q A gW gT gN t c mk many v v2 y l w (m + 1) (X.setCell ⟨gN, 0, none⟩ (.int .i64 ((m : Int) + 1))) := by
  obtain ⟨⟨h1, h2, h3⟩, h4⟩ := h
  obtain ⟨Y, hY⟩ : ∃ Y, X.setCell ⟨gN, 0, none⟩ (.int .i64 ((m : Int) + 1)) = Y := ⟨_, rfl⟩
  have hg : X.grownBy Y (some gN) := by rw [← hY]; exact grown_set' (grown_refl X _) 0 _
  have k3 : Blk Y gN 3 #[.int .i64 ((m : Int) + 1)] := by rw [← hY]; exact heap_setCell_same X gN 0 _ _ _ h3
  rw [hY]
  refine ⟨⟨h1.kept hg hq hB hqq hA hW (fun r e => by cases e; omega), h2.kept hg (by intro e; have := Option.some.inj e; omega), k3⟩, fun d e => ?_⟩
  have hdl := hm d e
  exact (hg.block d (Array.getElem?_eq_some_iff.1 (h4 d e)).1 (by intro e; have := Option.some.inj e; omega)).trans (h4 d e)
/-- A drawn region in a round that reads: walked once. -/
theorem wpIn_region_quiet_round {n : Nat} {P : Program} {id : Nat} {Q : Exit → Act → World → Prop} {a : Act} {w : World} {l : List Oper} (l2 : Nat) (hm : P.follows .mixedOrders = true)
    (hnd : (l.toArray.all fun o => match o.op with | .defer _ => false | _ => true) = true) (hB : Region.lexB .any l.toArray = true)
    (h : wpQuietIn Fence.wide n P l.toArray (fun w' => ∃ n, w' = w.drewN n) (fun a' => ∀ w', (∃ n, w' = w.drewN n) → Q .normal a' w') l a) : (Code.region id l.toArray true).wpIn (Fence.wide.inRound l2) n P Q a w := by
  simp only [Region.lexB, Bool.and_eq_true] at hB
  refine wpIn_region_round l2 hm hnd (wpAnyIn_of_quiet (C := fun w' => ∃ n, w' = w.drewN n) (Q := fun a' => ∀ w', (∃ n, w' = w.drewN n) → Q .normal a' w') rfl (fun _ w' hw' h => h w' hw') _ _ _ _ ⟨1, rfl⟩ ?_)
  have := wpAnyQIn_lex (F := Fence.wide) (n := n) (C := fun w' => ∃ n, w' = w.drewN n) (md := .any) hB.1 l 0 (Array.replicate l.toArray.size false) a (by simp) (by simpa using hB.2) (by simpa using h)
  simpa using this
theorem many_done (N : Nat) (n : Int) (h : N = 0 ∨ (N : Int) < n) : min (N : Int) (max 1 n) = N := by omega
theorem many_left (N k : Nat) (n : Int) (h1 : k ≤ N) (h0 : 0 < k) (h2 : n ≤ k) (h3 : k = 1 ∨ (k : Int) - 1 < n) : min (N : Int) (max 1 n) = k := by omega
set_option maxRecDepth 100000 in
set_option maxHeartbeats 8000000 in
theorem ops_walk (B : Nat) (v : Value) (l : List Nat) (many : Int) (w : World) (hB : B ≤ w.heap.size) (hv : Bto B w v l) :
    Calls Tryd.prog 4 #[v, .int .i64 many] w fun e w' => e = .returned (.bool true) ∧ Below w.heap.size w w' := by
  obtain ⟨x0, c0, rfl⟩ : ∃ x0 c0, v = .slice x0 l.length c0 := by obtain ⟨_, x, c, h, _⟩ := hv; exact ⟨x, c, h⟩
  obtain ⟨X, hX⟩ : ∃ X, ((w.alloc (.cells #[.slice x0 l.length c0] 32)).alloc (.cells #[.int .i64 many] 3)).alloc (.cells #[.bool false] 4) = X := ⟨_, rfl⟩
  have hal : Below w.heap.size w X := by rw [← hX]; exact balloc (balloc (balloc (Below.refl w.heap.size w) _) _) _
  have hb0 : Blk X w.heap.size 32 #[.slice x0 l.length c0] := by rw [← hX]; exact ((Blk.new w _ _).alloc _).alloc _
  have hb1 : Blk X (w.heap.size + 1) 3 #[.int .i64 many] := by rw [← hX]; exact (Blk.newS w _ _ _).alloc _
  have hb2 : Blk X (w.heap.size + 1 + 1) 4 #[.bool false] := by
    rw [← hX]
    have h := Blk.newS (w.alloc (.cells #[.slice x0 l.length c0] 32)) (.cells #[.int .i64 many] 3) 4 #[.bool false]
    rwa [World.size_alloc] at h
  have hsz : X.heap.size = w.heap.size + 3 := by rw [← hX]; simp
  have HX := Lib.hid (And.intro hX (And.intro hal (And.intro hb0 (And.intro hb1 hsz))))
  have HR := Lib.hid hb2
  have hvX := hv.new hal
  have c0' : X.cell? ⟨w.heap.size, 0, none⟩ = some (.slice x0 l.length c0) := cell_of_row _ _ 0 _ _ _ hb0
  clear hX hal hb0 hb2 hb1 hv
  by_cases h1 : 300 < l.length
  · have h1I : (300 : Int) < (l.length : Int) := by omega
    clear h1 hvX hB hsz
    refine (callsIn_wide (n := 20)).1 ?_
    refine callsIn_of_wp_marks Tryd.func4 rfl trivial ?_ rfl
    simp only [Tryd.ntmps4, List.size_toArray, List.length_cons, List.length_nil, Nat.reduceAdd, Nat.reduceSub, Array.replicate_succ, Array.replicate_zero, List.push_toArray, List.append_toArray, List.nil_append, List.cons_append]
    refine (wpIn_wide (n := 20)).2 ?_
    go_upto_region 1 with fail
    rw [HX.out.1]
    go_wp2_with (first | (go_at_call 9; refine (works_any10 _).mono ?_; rintro e wz ⟨rfl, hz⟩; have hR := HR.out.keep hz; have f0 := frozen_of_row _ _ 0 _ _ hR; have d0 := cell_of_row _ _ 0 _ _ _ hR; have HZ := Lib.hid (And.intro hR hz); clear hz hR) | fail)
    have hT := heap_setCell_same wz (w.heap.size + 1 + 1) 0 _ _ (.bool true) HZ.out.1
    have q0 := cell_of_row _ _ 0 _ _ _ hT
    exact ⟨.bool true, by simp [results, Tryd.results4, go_sem, q0], rfl, (bstep HX.out.2.1 HZ.out.2).setCell (p := ⟨w.heap.size + 1 + 1, 0, none⟩) (by simp; omega) _⟩
  have h1I : ¬ (300 : Int) < (l.length : Int) := by omega
  have HP := Lib.hid (rops_any B _ l (by omega) X (by omega) hvX)
  have HO := Lib.hid (fun (Z : World) (YQ : Value) (h : Below X.heap.size X Z) => cops_any B _ l (by omega) (Z.alloc (.cells #[YQ] 33)) ((hvX.new h).new (balloc (Below.refl _ _) _)))
  have HV := Lib.hid (And.intro hvX (And.intro hB (And.intro hsz (show l.length ≤ 300 by omega))))
  have hnil : ∀ (p : Value) w, (binOp .eql 36 (.func (.func 64) #[] #[p]) .nilFunc).run Tryd.prog w = .ok (.bool false) w := fun _ _ => by kernel_rfl
  clear h1 hvX hB hsz
  refine (callsIn_wide (n := 20)).1 ?_
  refine callsIn_of_wp_marks Tryd.func4 rfl trivial ?_ rfl
  simp only [Tryd.ntmps4, List.size_toArray, List.length_cons, List.length_nil, Nat.reduceAdd, Nat.reduceSub, Array.replicate_succ, Array.replicate_zero, List.push_toArray, List.append_toArray, List.nil_append, List.cons_append]
  refine (wpIn_wide (n := 20)).2 ?_
  go_upto_region 1 with fail
  rw [HX.out.1]
  go_upto_region 7 with (first | (go_at_call 14; refine (HP.out).mono ?_; rintro e w1 ⟨y1, c1, rfl, hO1, h1⟩; rw [plL_len] at hO1 ⊢; have H1 := Lib.hid (And.intro hO1 h1); have cA1 : (w1.alloc (.cells #[.slice y1 (opsN l) c1] 33)).cell? ⟨w.heap.size, 0, none⟩ = some (.slice x0 l.length c0) := cell_of_row _ _ 0 _ _ _ ((HX.out.2.2.1.keep h1).alloc _); clear hO1 h1) | (go_at_call 15; refine (HO.out _ _ H1.out.2).mono ?_; rintro e V ⟨A, x2, c2, rfl, hA, hk2, h2⟩; have H2 := Lib.hid (And.intro hA (And.intro hk2 h2)); clear hA hk2 h2) | fail)
  obtain ⟨gW, hgW⟩ : ∃ g, w1.heap.size = g := ⟨_, rfl⟩
  rw [hgW]
  have hBU : Below w1.heap.size w1 (w1.alloc (.cells #[.slice y1 (opsN l) c1] 33)) := balloc (Below.refl _ _) _
  have hsU : (w1.alloc (.cells #[.slice y1 (opsN l) c1] 33)).heap.size = gW + 1 := by rw [World.size_alloc, hgW]
  have h1V : Below w1.heap.size w1 V := bstep hBU H2.out.2.2
  have kW : Blk V gW 33 #[.slice y1 (opsN l) c1] := by rw [← hgW]; exact (Blk.new w1 _ _).keep H2.out.2.2
  have hsV : gW + 1 ≤ V.heap.size := by rw [← hsU]; exact H2.out.2.2.size
  have hwV : w.heap.size + 3 ≤ gW := by have := H1.out.2.size; have := HV.out; omega
  have hRw : RwI w1.heap.size w1 y1 (plL l) := RwI.of_own (by rw [← plL_len l] at H1; exact H1.out.1)
  have hE : CoE B V.heap.size A gW c1 many (.slice x0 l.length c0) (.slice x2 l.length c2) y1 l w V :=
    ⟨⟨(HX.out.2.2.1.keep H1.out.2).keep h1V, (HX.out.2.2.2.1.keep H1.out.2).keep h1V, (HR.out.keep H1.out.2).keep h1V, kW⟩, (HV.out.1.new H1.out.2).new h1V, H2.out.2.1, fun k x hx => by
      obtain ⟨g, e, p1, p2, p3⟩ := hRw k x hx
      exact ⟨g, e, by omega, by omega, (cell_heap (p := ⟨g, k, none⟩) (h1V.block g p2)).trans p3⟩, bstep (bstep HX.out.2.1 H1.out.2) h1V⟩
  have HB := Lib.hid (And.intro hsV (And.intro hwV (And.intro HV.out.2.1 (And.intro H2.out.1 (And.intro HV.out.2.2.2 (opsN_spec l).2.1)))))
  obtain ⟨gT0, hgT0⟩ : ∃ g, V.heap.size = g := ⟨_, rfl⟩
  obtain ⟨Z0, hZ0⟩ : ∃ Z, V.alloc (.cells #[.int .i64 0] 3) = Z := ⟨_, rfl⟩
  have hVZ : Below V.heap.size V Z0 := by rw [← hZ0]; exact balloc (Below.refl _ _) _
  have kT0 : Blk Z0 gT0 3 #[.int .i64 0] := by rw [← hZ0, ← hgT0]; exact Blk.new V _ _
  have hE0 := hE.new hVZ
  have hsZ0 : Z0.heap.size = gT0 + 1 := by rw [← hZ0, World.size_alloc, hgT0]
  have cT0 := cell_of_row Z0 _ 0 _ _ _ kT0
  have HT0 := Lib.hid (And.intro hgT0 (And.intro kT0 (And.intro hE0 (And.intro hsZ0 (show A < gT0 ∧ w.heap.size + 3 < gT0 ∧ V.heap.size ≤ gT0 ∧ gW < gT0 by have := HB.out; exact ⟨by omega, by omega, by omega, by omega⟩)))))
  have HQ0 := Lib.hid (And.intro hgT0 hZ0)
  clear hgT0 hZ0 hVZ kT0 hE0 hsZ0 hE hRw hwV hsV kW h1V hBU hsU hgW H1 H2 HV HX HR cA1 HP HO c0'
  go_wp2_with fail
  rw [HQ0.out.1, HQ0.out.2]
  clear HQ0
  refine wp_loop_rounds 3 ?_
  rw [rounds_succ]
  go_wp2_with fail
  obtain ⟨gN0, hgN0⟩ : ∃ g, Z0.heap.size = g := ⟨_, rfl⟩
  obtain ⟨W0, hW0⟩ : ∃ W, Z0.alloc (.cells #[.int .i64 0] 3) = W := ⟨_, rfl⟩
  have hZW0 : Below Z0.heap.size Z0 W0 := by rw [← hW0]; exact balloc (Below.refl _ _) _
  have kN0 : Blk W0 gN0 3 #[.int .i64 0] := by rw [← hW0, ← hgN0]; exact Blk.new Z0 _ _
  have hsW0 : W0.heap.size = gN0 + 1 := by rw [← hW0, World.size_alloc, hgN0]
  rw [hgN0, hW0]
  have HI0 := Lib.hid (show CoI B V.heap.size A gW gT0 gN0 0 c1 none many (.slice x0 l.length c0) (.slice x2 l.length c2) y1 l w [] W0 from ⟨⟨⟨HT0.out.2.2.1.new hZW0, HT0.out.2.1.keep hZW0, kN0⟩, fun d e => by cases e⟩, fun _ => .inl rfl⟩)
  have HG0 := Lib.hid (show w.heap.size + 3 < gN0 ∧ A < gN0 ∧ V.heap.size ≤ gN0 ∧ gW < gN0 ∧ gT0 < gN0 ∧ W0.heap.size = gN0 + 1 ∧ True by have := HT0.out; exact ⟨by omega, by omega, by omega, by omega, by omega, by omega, trivial⟩)
  clear hW0 hZW0 kN0 hsW0 cT0 hgN0
  refine (wpIn_wide (n := 20)).1 ?_
  refine wpIn_rangeV (n := 20) (by omega) (gf := 64) (lb := #[.pointer (some ⟨A, 0, none⟩)]) rfl enters_ops
    (ops_seq (20 - 1) (by omega) A V.heap.size w.heap.size (.slice x2 l.length c2) l (by have := HB.out; omega) W0) (Below.refl _ _) HI0.out.1.1.1.2.2.2.2.size (fun k h => h.elim) (fun _ => rfl)
    (CoI B V.heap.size A gW gT0 gN0 0 c1 none many (.slice x0 l.length c0) (.slice x2 l.length c2) y1 l w) (CoX B V.heap.size A gW gT0 gN0 0 c1 none many (.slice x0 l.length c0) (.slice x2 l.length c2) y1 l w)
    (CoI.stay (by have := HG0.out; have := HB.out; omega) (by have := HG0.out; have := HB.out; omega) (by have := HG0.out; have := HB.out; omega) (by have := HG0.out; have := HB.out; omega) (by have := HG0.out; have := HB.out; omega) (by have := HG0.out; have := HB.out; omega) (by have := HG0.out; have := HB.out; omega) (fun d e => by cases e)) (fun e => CoX.stay (by have := HG0.out; have := HB.out; omega) (by have := HG0.out; have := HB.out; omega) (by have := HG0.out; have := HB.out; omega) (by have := HG0.out; have := HB.out; omega) (by have := HG0.out; have := HB.out; omega) (by have := HG0.out; have := HB.out; omega) (by have := HG0.out; have := HB.out; omega) (fun d e => by cases e) e) (fun pre X h => h.1.1.1.2.2.1) HI0.out
    (fun x a' _ => ∃ y : Nat → Value, a' = { tmps := #[y 0, y 1, .pointer (some ⟨w.heap.size, 0, none⟩), .pointer (some ⟨w.heap.size + 1, 0, none⟩), .pointer (some ⟨w.heap.size + 1 + 1, 0, none⟩), .pointer (some ⟨gW, 0, none⟩), .func (.func 64) #[] #[.pointer (some ⟨A, 0, none⟩)], .pointer (some ⟨gT0, 0, none⟩), .pointer (some ⟨gN0, 0, none⟩), .int .i64 (pos l x : Nat), .int .u8 (opB l x : Nat), y 11, y 12, y 13, y 14, y 15, y 16, y 17, y 18, y 19, y 20, y 21, y 22, y 23, y 24, y 25, y 26, y 27, y 28, y 29, y 30, y 31, y 32, y 33, y 34, y 35, y 36, y 37, y 38, y 39, y 40, y 41, y 42, y 43, y 44, y 45, y 46, y 47, y 48, y 49, y 50, y 51, y 52, y 53, y 54, y 55, y 56, y 57, y 58, y 59, y 60, y 61, y 62, y 63, y 64, y 65, y 66, y 67, y 68, y 69, y 70, y 71, y 72, y 73, y 74, y 75, y 76, y 77, y 78, y 79], defers := [] })
    (fun x a' _ _ _ _ hs _ _ => hs)
    ?assign ?body ?done ?stop
  case assign =>
    rintro l2 pre x X K _ _ hi hK
    gi_wp2_with fail
    exact hK _ _ (KeptM.refl _ _) (Below.refl _ _) hi (ex_frame (by rfl))
  case body =>
    rintro l2 pre x a' X hl2 ⟨rfl, hx⟩ hlo ⟨hCB, hlt3⟩ ⟨y, rfl⟩
    rw [List.length_range] at hCB hlt3
    have hN := opsN_spec l
    have hp := opsN_lt.1 hx
    obtain ⟨hb1, xq, cap, e9, hb3, hb4, hb5⟩ := hCB.1.1.2.1
    injection e9 with e9a e9b e9c
    obtain ⟨b9, o9, e10, _, _, hc9⟩ := hb5 (by intro e; subst e; simp at hp)
    obtain ⟨gr, e11, _, _, cR⟩ := hCB.1.1.2.2.2.1 x _ (plL_at hx)
    rw [e10] at e9a
    subst e9a e11
    clear e9c e9b
    have cO := hc9 _ _ (opB_at hp)
    have cA0 : X.cell? ⟨w.heap.size, 0, none⟩ = some (.slice (some ⟨b9, o9, none⟩) l.length c0) := cell_of_row X _ 0 _ _ _ hCB.1.1.1.1
    have cM : X.cell? ⟨w.heap.size + 1, 0, none⟩ = some (.int .i64 many) := cell_of_row X _ 0 _ _ _ hCB.1.1.1.2.1
    have cW : X.cell? ⟨gW, 0, none⟩ = some (.slice (some ⟨gr, 0, none⟩) (opsN l) c1) := cell_of_row X _ 0 _ _ _ hCB.1.1.1.2.2.2
    have cT : X.cell? ⟨gT0, 0, none⟩ = some (.int .i64 0) := cell_of_row X _ 0 _ _ _ hCB.1.2.1
    have cN : X.cell? ⟨gN0, 0, none⟩ = some (.int .i64 (x : Nat)) := cell_of_row X _ 0 _ _ _ hCB.1.2.2
    have fN := frozen_of_row X _ 0 _ _ hCB.1.2.2
    have hxl : x ≤ 300 := by have := HB.out; omega
    have hS := hCB.count (m := x) (by have := HG0.out; have := HB.out; omega) (by have := HG0.out; have := HB.out; omega) (by have := HG0.out; have := HB.out; omega) (by have := HG0.out; have := HB.out; omega) (by have := HG0.out; have := HB.out; omega) (by have := HG0.out; have := HB.out; omega) (fun d e => by cases e)
    have cM2 : (X.setCell ⟨gN0, 0, none⟩ (.int .i64 ((x : Int) + 1))).cell? ⟨w.heap.size + 1, 0, none⟩ = some (.int .i64 many) := cell_of_row _ _ 0 _ _ _ hS.1.1.1.2.1
    have cT2 : (X.setCell ⟨gN0, 0, none⟩ (.int .i64 ((x : Int) + 1))).cell? ⟨gT0, 0, none⟩ = some (.int .i64 0) := cell_of_row _ _ 0 _ _ _ hS.1.2.1
    have cN2 : (X.setCell ⟨gN0, 0, none⟩ (.int .i64 ((x : Int) + 1))).cell? ⟨gN0, 0, none⟩ = some (.int .i64 ((x : Int) + 1)) := cell_of_row _ _ 0 _ _ _ hS.1.2.2
    have hX1 : KeptM (fun k => noM k ∨ k = W0.heap.size ∨ k = W0.heap.size + 1) X (X.setCell ⟨gN0, 0, none⟩ (.int .i64 ((x : Int) + 1))) := KeptM.grown (grown_set' (grown_refl X gN0) 0 _) (fun r e h => by cases e; have := HG0.out; rcases h with h | h | h; exact h.elim; omega; omega)
    have hX2 : Below w.heap.size X (X.setCell ⟨gN0, 0, none⟩ (.int .i64 ((x : Int) + 1))) := (Below.refl _ X).setCell (p := ⟨gN0, 0, none⟩) (by have := HG0.out; simp; omega) _
    have hwp : IntKind.i64.wrap ((x : Int) + 1) = (x : Int) + 1 := IntWalk.i64_in _ (by omega)
    have hxI : (x : Int) < (opsN l : Int) := by omega
    have hpI : (pos l x : Int) < (l.length : Int) := by omega
    have hdx : decide (opsN l ≤ x) = false := decide_eq_false (by omega)
    have HFi := Lib.hid (And.intro hS (And.intro hX1 hX2))
    clear hS hX1 hX2 hCB hb1 hb3 hb4 hb5 hc9 hN hp hx hlo hl2
    have hlt := hlt3 (by trivial)
    clear hlt3
    by_cases h3 : many ≤ (x : Int) + 1
    · have hcb : decide (many ≤ (x : Int) + 1) = true := decide_eq_true h3
      gi_wp2_with fail
      refine ⟨HFi.out.2.1, by rw [List.length_append, List.length_range]; exact HFi.out.1, rfl, rfl, ?_, ?_⟩
      · rw [List.length_append, List.length_range]; exact h3
      · rw [List.length_append, List.length_range]; show x + 1 = 1 ∨ ((x + 1 : Nat) : Int) - 1 < many; omega
    · have hcb : decide (many ≤ (x : Int) + 1) = false := decide_eq_false h3
      gi_wp2_with fail
      refine ⟨HFi.out.2.1, HFi.out.2.2, by rw [List.length_append, List.length_range]; exact HFi.out.1, fun _ => .inr ?_⟩
      rw [List.length_append, List.length_range]; show ((x + 1 : Nat) : Int) < many; omega
  case done =>
    rintro D0 xs X0 hD0 rfl ⟨⟨⟨hE, kT, kN⟩, _⟩, hlt3⟩ hK0
    rw [List.length_range] at kN hlt3
    have hl3 := hlt3 rfl
    obtain ⟨n0, hn0⟩ : ∃ n0, opsN l = n0 := ⟨_, rfl⟩
    have hmin : min (opsN l : Int) (max 1 many) = (n0 : Int) := by rw [many_done _ _ (by omega), hn0]
    rw [hn0] at kN
    clear hlt3
    have cT : X0.cell? ⟨gT0, 0, none⟩ = some (.int .i64 0) := cell_of_row X0 _ 0 _ _ _ kT
    have cN : X0.cell? ⟨gN0, 0, none⟩ = some (.int .i64 (n0 : Nat)) := cell_of_row X0 _ 0 _ _ _ kN
    have cM : X0.cell? ⟨w.heap.size + 1, 0, none⟩ = some (.int .i64 many) := cell_of_row X0 _ 0 _ _ _ hE.1.2.1
    have cW : X0.cell? ⟨gW, 0, none⟩ = some (.slice y1 (opsN l) c1) := cell_of_row X0 _ 0 _ _ _ hE.1.2.2.2
    obtain ⟨gT1, hgT1⟩ : ∃ g, X0.heap.size = g := ⟨_, rfl⟩
    obtain ⟨Z1, hZ1⟩ : ∃ Z, X0.alloc (.cells #[.int .i64 1] 3) = Z := ⟨_, rfl⟩
    have hXZ1 : Below X0.heap.size X0 Z1 := by rw [← hZ1]; exact balloc (Below.refl _ _) _
    have kT1 : Blk Z1 gT1 3 #[.int .i64 1] := by rw [← hZ1, ← hgT1]; exact Blk.new X0 _ _
    have hE1 := hE.new hXZ1
    have hsZ1 : Z1.heap.size = gT1 + 1 := by rw [← hZ1, World.size_alloc, hgT1]
    have hDl0 : D0 < X0.heap.size := (Array.getElem?_eq_some_iff.1 hK0).1
    have hgV1 : A < gT1 ∧ w.heap.size + 3 < gT1 ∧ V.heap.size ≤ gT1 ∧ gW < gT1 ∧ D0 < gT1 ∧ w.heap.size + 3 < D0 := by have := HG0.out; have := kN.lt; exact ⟨by omega, by omega, by omega, by omega, by omega, by omega⟩
    have HM1 := Lib.hid ((hXZ1.block D0 hDl0).trans hK0)
    have HT1 := Lib.hid (And.intro hgT1 (And.intro kT1 (And.intro hE1 (And.intro hsZ1 hgV1))))
    have cT1 := cell_of_row Z1 _ 0 _ _ _ kT1
    have HQ1 := Lib.hid (And.intro hgT1 hZ1)
    clear hXZ1 kT1 hE1 hsZ1 hgV1 hDl0 hgT1 hZ1 hE kT kN hK0 hD0 HG0 HT0 HI0 hn0 hl3
    go_wp2_with fail
    rw [HQ1.out.1, HQ1.out.2]
    clear HQ1 cT cN cM cW hmin
    rw [rounds_succ]
    go_wp2_with fail
    obtain ⟨gN1, hgN1⟩ : ∃ g, Z1.heap.size = g := ⟨_, rfl⟩
    obtain ⟨W1, hW1⟩ : ∃ W, Z1.alloc (.cells #[.int .i64 0] 3) = W := ⟨_, rfl⟩
    have hZW1 : Below Z1.heap.size Z1 W1 := by rw [← hW1]; exact balloc (Below.refl _ _) _
    have kN1 : Blk W1 gN1 3 #[.int .i64 0] := by rw [← hW1, ← hgN1]; exact Blk.new Z1 _ _
    have hsW1 : W1.heap.size = gN1 + 1 := by rw [← hW1, World.size_alloc, hgN1]
    rw [hgN1, hW1]
    have HI1 := Lib.hid (show CoI B V.heap.size A gW gT1 gN1 1 c1 (some D0) many (.slice x0 l.length c0) (.slice x2 l.length c2) y1 l w [] W1 from ⟨⟨⟨HT1.out.2.2.1.new hZW1, HT1.out.2.1.keep hZW1, kN1⟩, fun d e => by cases e; exact (hZW1.block D0 (Array.getElem?_eq_some_iff.1 HM1.out).1).trans HM1.out⟩, fun _ => .inl rfl⟩)
    have HG1 := Lib.hid (show w.heap.size + 3 < gN1 ∧ A < gN1 ∧ V.heap.size ≤ gN1 ∧ gW < gN1 ∧ gT1 < gN1 ∧ W1.heap.size = gN1 + 1 ∧ D0 < gN1 by have := HT1.out; omega)
    clear hW1 hZW1 kN1 hsW1 cT1 hgN1
    refine (wpIn_wide (n := 20)).1 ?_
    refine wpIn_rangeV (n := 20) (by omega) (gf := 64) (lb := #[.pointer (some ⟨A, 0, none⟩)]) rfl enters_ops
      (ops_seq (20 - 1) (by omega) A V.heap.size w.heap.size (.slice x2 l.length c2) l (by have := HB.out; omega) W1) (Below.refl _ _) HI1.out.1.1.1.2.2.2.2.size (fun k h => h.elim) (fun _ => rfl)
      (CoI B V.heap.size A gW gT1 gN1 1 c1 (some D0) many (.slice x0 l.length c0) (.slice x2 l.length c2) y1 l w) (CoX B V.heap.size A gW gT1 gN1 1 c1 (some D0) many (.slice x0 l.length c0) (.slice x2 l.length c2) y1 l w)
      (CoI.stay (by have := HG1.out; have := HB.out; omega) (by have := HG1.out; have := HB.out; omega) (by have := HG1.out; have := HB.out; omega) (by have := HG1.out; have := HB.out; omega) (by have := HG1.out; have := HB.out; omega) (by have := HG1.out; have := HB.out; omega) (by have := HG1.out; have := HB.out; omega) (fun d e => by cases e; have := HG1.out; omega)) (fun e => CoX.stay (by have := HG1.out; have := HB.out; omega) (by have := HG1.out; have := HB.out; omega) (by have := HG1.out; have := HB.out; omega) (by have := HG1.out; have := HB.out; omega) (by have := HG1.out; have := HB.out; omega) (by have := HG1.out; have := HB.out; omega) (by have := HG1.out; have := HB.out; omega) (fun d e => by cases e; have := HG1.out; omega) e) (fun pre X h => h.1.1.1.2.2.1) HI1.out
      (fun x a' _ => ∃ y : Nat → Value, a' = { tmps := #[y 0, y 1, .pointer (some ⟨w.heap.size, 0, none⟩), .pointer (some ⟨w.heap.size + 1, 0, none⟩), .pointer (some ⟨w.heap.size + 1 + 1, 0, none⟩), .pointer (some ⟨gW, 0, none⟩), .func (.func 64) #[] #[.pointer (some ⟨A, 0, none⟩)], .pointer (some ⟨gT1, 0, none⟩), .pointer (some ⟨gN1, 0, none⟩), .int .i64 (pos l x : Nat), .int .u8 (opB l x : Nat), y 11, y 12, y 13, y 14, y 15, y 16, y 17, y 18, y 19, y 20, y 21, y 22, y 23, y 24, y 25, y 26, y 27, y 28, y 29, y 30, y 31, y 32, y 33, y 34, y 35, y 36, y 37, y 38, y 39, y 40, y 41, y 42, y 43, y 44, y 45, y 46, y 47, y 48, y 49, y 50, y 51, y 52, y 53, y 54, y 55, y 56, y 57, y 58, y 59, y 60, y 61, y 62, y 63, y 64, y 65, y 66, y 67, y 68, y 69, y 70, y 71, y 72, y 73, y 74, y 75, y 76, y 77, y 78, y 79], defers := [] })
      (fun x a' _ _ _ _ hs _ _ => hs)
      ?assign1 ?body1 ?done1 ?stop1
    case assign1 =>
      rintro l2 pre x X K _ _ hi hK
      gi_wp2_with fail
      exact hK _ _ (KeptM.refl _ _) (Below.refl _ _) hi (ex_frame (by rfl))
    case body1 =>
      rintro l2 pre x a' X hl2 ⟨rfl, hx⟩ hlo ⟨hCB, hlt3⟩ ⟨y, rfl⟩
      rw [List.length_range] at hCB hlt3
      have hN := opsN_spec l
      have hp := opsN_lt.1 hx
      obtain ⟨hb1, xq, cap, e9, hb3, hb4, hb5⟩ := hCB.1.1.2.1
      injection e9 with e9a e9b e9c
      obtain ⟨b9, o9, e10, _, _, hc9⟩ := hb5 (by intro e; subst e; simp at hp)
      obtain ⟨gr, e11, _, _, cR⟩ := hCB.1.1.2.2.2.1 x _ (plL_at hx)
      rw [e10] at e9a
      subst e9a e11
      clear e9c e9b
      have cO := hc9 _ _ (opB_at hp)
      have cA0 : X.cell? ⟨w.heap.size, 0, none⟩ = some (.slice (some ⟨b9, o9, none⟩) l.length c0) := cell_of_row X _ 0 _ _ _ hCB.1.1.1.1
      have cM : X.cell? ⟨w.heap.size + 1, 0, none⟩ = some (.int .i64 many) := cell_of_row X _ 0 _ _ _ hCB.1.1.1.2.1
      have cW : X.cell? ⟨gW, 0, none⟩ = some (.slice (some ⟨gr, 0, none⟩) (opsN l) c1) := cell_of_row X _ 0 _ _ _ hCB.1.1.1.2.2.2
      have cT : X.cell? ⟨gT1, 0, none⟩ = some (.int .i64 1) := cell_of_row X _ 0 _ _ _ hCB.1.2.1
      have cN : X.cell? ⟨gN1, 0, none⟩ = some (.int .i64 (x : Nat)) := cell_of_row X _ 0 _ _ _ hCB.1.2.2
      have fN := frozen_of_row X _ 0 _ _ hCB.1.2.2
      have hxl : x ≤ 300 := by have := HB.out; omega
      have hS := hCB.count (m := x) (by have := HG1.out; have := HB.out; omega) (by have := HG1.out; have := HB.out; omega) (by have := HG1.out; have := HB.out; omega) (by have := HG1.out; have := HB.out; omega) (by have := HG1.out; have := HB.out; omega) (by have := HG1.out; have := HB.out; omega) (fun d e => by cases e; have := HG1.out; omega)
      have cM2 : (X.setCell ⟨gN1, 0, none⟩ (.int .i64 ((x : Int) + 1))).cell? ⟨w.heap.size + 1, 0, none⟩ = some (.int .i64 many) := cell_of_row _ _ 0 _ _ _ hS.1.1.1.2.1
      have cT2 : (X.setCell ⟨gN1, 0, none⟩ (.int .i64 ((x : Int) + 1))).cell? ⟨gT1, 0, none⟩ = some (.int .i64 1) := cell_of_row _ _ 0 _ _ _ hS.1.2.1
      have cN2 : (X.setCell ⟨gN1, 0, none⟩ (.int .i64 ((x : Int) + 1))).cell? ⟨gN1, 0, none⟩ = some (.int .i64 ((x : Int) + 1)) := cell_of_row _ _ 0 _ _ _ hS.1.2.2
      have hX1 : KeptM (fun k => noM k ∨ k = W1.heap.size ∨ k = W1.heap.size + 1) X (X.setCell ⟨gN1, 0, none⟩ (.int .i64 ((x : Int) + 1))) := KeptM.grown (grown_set' (grown_refl X gN1) 0 _) (fun r e h => by cases e; have := HG1.out; rcases h with h | h | h; exact h.elim; omega; omega)
      have hX2 : Below w.heap.size X (X.setCell ⟨gN1, 0, none⟩ (.int .i64 ((x : Int) + 1))) := (Below.refl _ X).setCell (p := ⟨gN1, 0, none⟩) (by have := HG1.out; simp; omega) _
      have hwp : IntKind.i64.wrap ((x : Int) + 1) = (x : Int) + 1 := IntWalk.i64_in _ (by omega)
      have hxI : (x : Int) < (opsN l : Int) := by omega
      have hpI : (pos l x : Int) < (l.length : Int) := by omega
      have hdx : decide (opsN l ≤ x) = false := decide_eq_false (by omega)
      have HFi := Lib.hid (And.intro hS (And.intro hX1 hX2))
      clear hS hX1 hX2 hCB hb1 hb3 hb4 hb5 hc9 hN hp hx hlo hl2
      gi_wp2_with (first | (with_reducible refine And.intro (fun f h => (by cases h)) ?_) | fail)
      exact ⟨HFi.out.2.1, HFi.out.2.2, by rw [List.length_append, List.length_range]; exact HFi.out.1, fun e => absurd e (by decide)⟩
    case done1 =>
      rintro D1 xs X1 hD1 rfl ⟨⟨⟨hE, kT, kN⟩, hmk⟩, _⟩ hK1
      rw [List.length_range] at kN
      have hK0 := hmk D0 rfl
      have cT : X1.cell? ⟨gT1, 0, none⟩ = some (.int .i64 1) := cell_of_row X1 _ 0 _ _ _ kT
      have cN : X1.cell? ⟨gN1, 0, none⟩ = some (.int .i64 (opsN l : Nat)) := cell_of_row X1 _ 0 _ _ _ kN
      have cW : X1.cell? ⟨gW, 0, none⟩ = some (.slice y1 (opsN l) c1) := cell_of_row X1 _ 0 _ _ _ hE.1.2.2.2
      obtain ⟨gU, hgU⟩ : ∃ g, X1.heap.size = g := ⟨_, rfl⟩
      obtain ⟨X2, hX2⟩ : ∃ Z, X1.alloc (.cells #[.int .i64 2] 3) = Z := ⟨_, rfl⟩
      have hXZ : Below X1.heap.size X1 X2 := by rw [← hX2]; exact balloc (Below.refl _ _) _
      have kU : Blk X2 gU 3 #[.int .i64 2] := by rw [← hX2, ← hgU]; exact Blk.new X1 _ _
      have hE2 := hE.new hXZ
      have hd0 := (hXZ.block D0 (Array.getElem?_eq_some_iff.1 hK0).1).trans hK0
      have hd1 := (hXZ.block D1 (Array.getElem?_eq_some_iff.1 hK1).1).trans hK1
      have hne : D0 < D1 ∧ w.heap.size + 3 < D0 := by have := HG1.out; have := HT1.out.2.2.2; exact ⟨by omega, by omega⟩
      have HQ2 := Lib.hid (And.intro hgU hX2)
      have HR := Lib.hid hE2.1.2.2.1
      have HD := Lib.hid (And.intro hd0 (And.intro hd1 (And.intro hne hE2.2.2.2.2)))
      have cU := cell_of_row X2 _ 0 _ _ _ kU
      clear hXZ kU hE2 hd0 hd1 hne hgU hX2 hE kT kN hmk hK0 hK1 hD1 HT1 HG1 HI1 HM1
      go_wp2_with fail
      rw [HQ2.out.1, HQ2.out.2]
      clear HQ2 cT cN cW
      rw [rounds_succ]
      go_wp2_with (first | (go_at_call 9; refine (works_any10 _).mono ?_; rintro e wz ⟨rfl, hz⟩; have hR := HR.out.keep hz; have f0 := frozen_of_row _ _ 0 _ _ hR; have d0 := cell_of_row _ _ 0 _ _ _ hR; have HZ := Lib.hid (And.intro hR hz); clear hz hR) | fail)
      have hz := HZ.out.2
      obtain ⟨hd0, hd1, ⟨hne, hwD⟩, hwX⟩ := HD.out
      have hDY : (wz.setCell ⟨w.heap.size + 1 + 1, 0, none⟩ (.bool true)).heap[D0]? = some (.deferred (some [])) := (Below.heap_setCell wz ⟨w.heap.size + 1 + 1, 0, none⟩ _ D0 (by simp; omega)).trans ((hz.block D0 (Array.getElem?_eq_some_iff.1 hd0).1).trans hd0)
      have hEY : (wz.setCell ⟨w.heap.size + 1 + 1, 0, none⟩ (.bool true)).heap[D1]? = some (.deferred (some [])) := (Below.heap_setCell wz ⟨w.heap.size + 1 + 1, 0, none⟩ _ D1 (by simp; omega)).trans ((hz.block D1 (Array.getElem?_eq_some_iff.1 hd1).1).trans hd1)
      have bY : Blk (wz.setCell ⟨w.heap.size + 1 + 1, 0, none⟩ (.bool true)) (w.heap.size + 1 + 1) 4 #[.bool true] := heap_setCell_same wz _ 0 _ _ _ HZ.out.1
      have hBY : Below w.heap.size w (wz.setCell ⟨w.heap.size + 1 + 1, 0, none⟩ (.bool true)) := (bstep hwX hz).setCell (p := ⟨w.heap.size + 1 + 1, 0, none⟩) (by simp; omega) _
      obtain ⟨Y9, hY9⟩ : ∃ Y9, wz.setCell ⟨w.heap.size + 1 + 1, 0, none⟩ (.bool true) = Y9 := ⟨_, rfl⟩
      rw [hY9] at hDY hEY bY hBY ⊢
      clear hY9 hd0 hd1 hwX hz HZ HD f0 d0
      have hD2' : (Y9.putObj D1 (.deferred none)).heap[D0]? = some (.deferred (some [])) := (World.putObj_heap_other (by omega)).trans hDY
      have bY2 : Blk (Y9.putObj D1 (.deferred none)) (w.heap.size + 1 + 1) 4 #[.bool true] := bY.kept (grownBy_putObj' Y9 D1 _) (by intro e; cases e; omega)
      have bY3 : Blk ((Y9.putObj D1 (.deferred none)).putObj D0 (.deferred none)) (w.heap.size + 1 + 1) 4 #[.bool true] := bY2.kept (grownBy_putObj' _ D0 _) (by intro e; cases e; omega)
      have q0 := cell_of_row _ _ 0 _ _ _ bY3
      refine ⟨by simp, .inl ⟨_, _, rfl, run_takeDeferred hEY, ?_⟩⟩
      refine ⟨by simp, .inl ⟨_, _, rfl, run_takeDeferred hD2', ?_⟩⟩
      exact ⟨.bool true, by simp [results, Tryd.results4, go_sem, q0], rfl, (hBY.trans (below_put Y9 _ (by omega))).trans (below_put _ _ (by omega))⟩
    case stop1 =>
      rintro D1 e pre X1 hD1 _ ⟨_, ⟨_, h0, _⟩⟩ _
      exact absurd h0 (by decide)
  case stop =>
    rintro D0 e pre X0 hD0 ⟨k0, rfl, hk0⟩ ⟨⟨⟨hE, kT, kN⟩, _⟩, ⟨rfl, _, hp1, hp2⟩⟩ hK0
    rw [List.length_range] at kN hp1 hp2
    obtain ⟨n0, hn0⟩ : ∃ n0, k0 + 1 = n0 := ⟨_, rfl⟩
    have hl3 : 0 < n0 := by omega
    have hmin : min (opsN l : Int) (max 1 many) = (n0 : Int) := many_left _ _ _ (by omega) (by omega) (by omega) (by omega)
    rw [hn0] at kN
    have HD0 := Lib.hid hD0
    clear hD0 hp1 hp2 hk0
    gi_wp2_with fail
    have hD0 := HD0.out
    clear HD0
    have cT : X0.cell? ⟨gT0, 0, none⟩ = some (.int .i64 0) := cell_of_row X0 _ 0 _ _ _ kT
    have cN : X0.cell? ⟨gN0, 0, none⟩ = some (.int .i64 (n0 : Nat)) := cell_of_row X0 _ 0 _ _ _ kN
    have cM : X0.cell? ⟨w.heap.size + 1, 0, none⟩ = some (.int .i64 many) := cell_of_row X0 _ 0 _ _ _ hE.1.2.1
    have cW : X0.cell? ⟨gW, 0, none⟩ = some (.slice y1 (opsN l) c1) := cell_of_row X0 _ 0 _ _ _ hE.1.2.2.2
    obtain ⟨gT1, hgT1⟩ : ∃ g, X0.heap.size = g := ⟨_, rfl⟩
    obtain ⟨Z1, hZ1⟩ : ∃ Z, X0.alloc (.cells #[.int .i64 1] 3) = Z := ⟨_, rfl⟩
    have hXZ1 : Below X0.heap.size X0 Z1 := by rw [← hZ1]; exact balloc (Below.refl _ _) _
    have kT1 : Blk Z1 gT1 3 #[.int .i64 1] := by rw [← hZ1, ← hgT1]; exact Blk.new X0 _ _
    have hE1 := hE.new hXZ1
    have hsZ1 : Z1.heap.size = gT1 + 1 := by rw [← hZ1, World.size_alloc, hgT1]
    have hDl0 : D0 < X0.heap.size := (Array.getElem?_eq_some_iff.1 hK0).1
    have hgV1 : A < gT1 ∧ w.heap.size + 3 < gT1 ∧ V.heap.size ≤ gT1 ∧ gW < gT1 ∧ D0 < gT1 ∧ w.heap.size + 3 < D0 := by have := HG0.out; have := kN.lt; exact ⟨by omega, by omega, by omega, by omega, by omega, by omega⟩
    have HM1 := Lib.hid ((hXZ1.block D0 hDl0).trans hK0)
    have HT1 := Lib.hid (And.intro hgT1 (And.intro kT1 (And.intro hE1 (And.intro hsZ1 hgV1))))
    have cT1 := cell_of_row Z1 _ 0 _ _ _ kT1
    have HQ1 := Lib.hid (And.intro hgT1 hZ1)
    clear hXZ1 kT1 hE1 hsZ1 hgV1 hDl0 hgT1 hZ1 hE kT kN hK0 hD0 HG0 HT0 HI0 hn0 hl3
    go_wp2_with fail
    rw [HQ1.out.1, HQ1.out.2]
    clear HQ1 cT cN cM cW hmin
    rw [rounds_succ]
    go_wp2_with fail
    obtain ⟨gN1, hgN1⟩ : ∃ g, Z1.heap.size = g := ⟨_, rfl⟩
    obtain ⟨W1, hW1⟩ : ∃ W, Z1.alloc (.cells #[.int .i64 0] 3) = W := ⟨_, rfl⟩
    have hZW1 : Below Z1.heap.size Z1 W1 := by rw [← hW1]; exact balloc (Below.refl _ _) _
    have kN1 : Blk W1 gN1 3 #[.int .i64 0] := by rw [← hW1, ← hgN1]; exact Blk.new Z1 _ _
    have hsW1 : W1.heap.size = gN1 + 1 := by rw [← hW1, World.size_alloc, hgN1]
    rw [hgN1, hW1]
    have HI1 := Lib.hid (show CoI B V.heap.size A gW gT1 gN1 1 c1 (some D0) many (.slice x0 l.length c0) (.slice x2 l.length c2) y1 l w [] W1 from ⟨⟨⟨HT1.out.2.2.1.new hZW1, HT1.out.2.1.keep hZW1, kN1⟩, fun d e => by cases e; exact (hZW1.block D0 (Array.getElem?_eq_some_iff.1 HM1.out).1).trans HM1.out⟩, fun _ => .inl rfl⟩)
    have HG1 := Lib.hid (show w.heap.size + 3 < gN1 ∧ A < gN1 ∧ V.heap.size ≤ gN1 ∧ gW < gN1 ∧ gT1 < gN1 ∧ W1.heap.size = gN1 + 1 ∧ D0 < gN1 by have := HT1.out; omega)
    clear hW1 hZW1 kN1 hsW1 cT1 hgN1
    refine (wpIn_wide (n := 20)).1 ?_
    refine wpIn_rangeV (n := 20) (by omega) (gf := 64) (lb := #[.pointer (some ⟨A, 0, none⟩)]) rfl enters_ops
      (ops_seq (20 - 1) (by omega) A V.heap.size w.heap.size (.slice x2 l.length c2) l (by have := HB.out; omega) W1) (Below.refl _ _) HI1.out.1.1.1.2.2.2.2.size (fun k h => h.elim) (fun _ => rfl)
      (CoI B V.heap.size A gW gT1 gN1 1 c1 (some D0) many (.slice x0 l.length c0) (.slice x2 l.length c2) y1 l w) (CoX B V.heap.size A gW gT1 gN1 1 c1 (some D0) many (.slice x0 l.length c0) (.slice x2 l.length c2) y1 l w)
      (CoI.stay (by have := HG1.out; have := HB.out; omega) (by have := HG1.out; have := HB.out; omega) (by have := HG1.out; have := HB.out; omega) (by have := HG1.out; have := HB.out; omega) (by have := HG1.out; have := HB.out; omega) (by have := HG1.out; have := HB.out; omega) (by have := HG1.out; have := HB.out; omega) (fun d e => by cases e; have := HG1.out; omega)) (fun e => CoX.stay (by have := HG1.out; have := HB.out; omega) (by have := HG1.out; have := HB.out; omega) (by have := HG1.out; have := HB.out; omega) (by have := HG1.out; have := HB.out; omega) (by have := HG1.out; have := HB.out; omega) (by have := HG1.out; have := HB.out; omega) (by have := HG1.out; have := HB.out; omega) (fun d e => by cases e; have := HG1.out; omega) e) (fun pre X h => h.1.1.1.2.2.1) HI1.out
      (fun x a' _ => ∃ y : Nat → Value, a' = { tmps := #[y 0, y 1, .pointer (some ⟨w.heap.size, 0, none⟩), .pointer (some ⟨w.heap.size + 1, 0, none⟩), .pointer (some ⟨w.heap.size + 1 + 1, 0, none⟩), .pointer (some ⟨gW, 0, none⟩), .func (.func 64) #[] #[.pointer (some ⟨A, 0, none⟩)], .pointer (some ⟨gT1, 0, none⟩), .pointer (some ⟨gN1, 0, none⟩), .int .i64 (pos l x : Nat), .int .u8 (opB l x : Nat), y 11, y 12, y 13, y 14, y 15, y 16, y 17, y 18, y 19, y 20, y 21, y 22, y 23, y 24, y 25, y 26, y 27, y 28, y 29, y 30, y 31, y 32, y 33, y 34, y 35, y 36, y 37, y 38, y 39, y 40, y 41, y 42, y 43, y 44, y 45, y 46, y 47, y 48, y 49, y 50, y 51, y 52, y 53, y 54, y 55, y 56, y 57, y 58, y 59, y 60, y 61, y 62, y 63, y 64, y 65, y 66, y 67, y 68, y 69, y 70, y 71, y 72, y 73, y 74, y 75, y 76, y 77, y 78, y 79], defers := [] })
      (fun x a' _ _ _ _ hs _ _ => hs)
      ?assign2 ?body2 ?done2 ?stop2
    case assign2 =>
      rintro l2 pre x X K _ _ hi hK
      gi_wp2_with fail
      exact hK _ _ (KeptM.refl _ _) (Below.refl _ _) hi (ex_frame (by rfl))
    case body2 =>
      rintro l2 pre x a' X hl2 ⟨rfl, hx⟩ hlo ⟨hCB, hlt3⟩ ⟨y, rfl⟩
      rw [List.length_range] at hCB hlt3
      have hN := opsN_spec l
      have hp := opsN_lt.1 hx
      obtain ⟨hb1, xq, cap, e9, hb3, hb4, hb5⟩ := hCB.1.1.2.1
      injection e9 with e9a e9b e9c
      obtain ⟨b9, o9, e10, _, _, hc9⟩ := hb5 (by intro e; subst e; simp at hp)
      obtain ⟨gr, e11, _, _, cR⟩ := hCB.1.1.2.2.2.1 x _ (plL_at hx)
      rw [e10] at e9a
      subst e9a e11
      clear e9c e9b
      have cO := hc9 _ _ (opB_at hp)
      have cA0 : X.cell? ⟨w.heap.size, 0, none⟩ = some (.slice (some ⟨b9, o9, none⟩) l.length c0) := cell_of_row X _ 0 _ _ _ hCB.1.1.1.1
      have cM : X.cell? ⟨w.heap.size + 1, 0, none⟩ = some (.int .i64 many) := cell_of_row X _ 0 _ _ _ hCB.1.1.1.2.1
      have cW : X.cell? ⟨gW, 0, none⟩ = some (.slice (some ⟨gr, 0, none⟩) (opsN l) c1) := cell_of_row X _ 0 _ _ _ hCB.1.1.1.2.2.2
      have cT : X.cell? ⟨gT1, 0, none⟩ = some (.int .i64 1) := cell_of_row X _ 0 _ _ _ hCB.1.2.1
      have cN : X.cell? ⟨gN1, 0, none⟩ = some (.int .i64 (x : Nat)) := cell_of_row X _ 0 _ _ _ hCB.1.2.2
      have fN := frozen_of_row X _ 0 _ _ hCB.1.2.2
      have hxl : x ≤ 300 := by have := HB.out; omega
      have hS := hCB.count (m := x) (by have := HG1.out; have := HB.out; omega) (by have := HG1.out; have := HB.out; omega) (by have := HG1.out; have := HB.out; omega) (by have := HG1.out; have := HB.out; omega) (by have := HG1.out; have := HB.out; omega) (by have := HG1.out; have := HB.out; omega) (fun d e => by cases e; have := HG1.out; omega)
      have cM2 : (X.setCell ⟨gN1, 0, none⟩ (.int .i64 ((x : Int) + 1))).cell? ⟨w.heap.size + 1, 0, none⟩ = some (.int .i64 many) := cell_of_row _ _ 0 _ _ _ hS.1.1.1.2.1
      have cT2 : (X.setCell ⟨gN1, 0, none⟩ (.int .i64 ((x : Int) + 1))).cell? ⟨gT1, 0, none⟩ = some (.int .i64 1) := cell_of_row _ _ 0 _ _ _ hS.1.2.1
      have cN2 : (X.setCell ⟨gN1, 0, none⟩ (.int .i64 ((x : Int) + 1))).cell? ⟨gN1, 0, none⟩ = some (.int .i64 ((x : Int) + 1)) := cell_of_row _ _ 0 _ _ _ hS.1.2.2
      have hX1 : KeptM (fun k => noM k ∨ k = W1.heap.size ∨ k = W1.heap.size + 1) X (X.setCell ⟨gN1, 0, none⟩ (.int .i64 ((x : Int) + 1))) := KeptM.grown (grown_set' (grown_refl X gN1) 0 _) (fun r e h => by cases e; have := HG1.out; rcases h with h | h | h; exact h.elim; omega; omega)
      have hX2 : Below w.heap.size X (X.setCell ⟨gN1, 0, none⟩ (.int .i64 ((x : Int) + 1))) := (Below.refl _ X).setCell (p := ⟨gN1, 0, none⟩) (by have := HG1.out; simp; omega) _
      have hwp : IntKind.i64.wrap ((x : Int) + 1) = (x : Int) + 1 := IntWalk.i64_in _ (by omega)
      have hxI : (x : Int) < (opsN l : Int) := by omega
      have hpI : (pos l x : Int) < (l.length : Int) := by omega
      have hdx : decide (opsN l ≤ x) = false := decide_eq_false (by omega)
      have HFi := Lib.hid (And.intro hS (And.intro hX1 hX2))
      clear hS hX1 hX2 hCB hb1 hb3 hb4 hb5 hc9 hN hp hx hlo hl2
      gi_wp2_with (first | (with_reducible refine And.intro (fun f h => (by cases h)) ?_) | fail)
      exact ⟨HFi.out.2.1, HFi.out.2.2, by rw [List.length_append, List.length_range]; exact HFi.out.1, fun e => absurd e (by decide)⟩
    case done2 =>
      rintro D1 xs X1 hD1 rfl ⟨⟨⟨hE, kT, kN⟩, hmk⟩, _⟩ hK1
      rw [List.length_range] at kN
      have hK0 := hmk D0 rfl
      have cT : X1.cell? ⟨gT1, 0, none⟩ = some (.int .i64 1) := cell_of_row X1 _ 0 _ _ _ kT
      have cN : X1.cell? ⟨gN1, 0, none⟩ = some (.int .i64 (opsN l : Nat)) := cell_of_row X1 _ 0 _ _ _ kN
      have cW : X1.cell? ⟨gW, 0, none⟩ = some (.slice y1 (opsN l) c1) := cell_of_row X1 _ 0 _ _ _ hE.1.2.2.2
      obtain ⟨gU, hgU⟩ : ∃ g, X1.heap.size = g := ⟨_, rfl⟩
      obtain ⟨X2, hX2⟩ : ∃ Z, X1.alloc (.cells #[.int .i64 2] 3) = Z := ⟨_, rfl⟩
      have hXZ : Below X1.heap.size X1 X2 := by rw [← hX2]; exact balloc (Below.refl _ _) _
      have kU : Blk X2 gU 3 #[.int .i64 2] := by rw [← hX2, ← hgU]; exact Blk.new X1 _ _
      have hE2 := hE.new hXZ
      have hd0 := (hXZ.block D0 (Array.getElem?_eq_some_iff.1 hK0).1).trans hK0
      have hd1 := (hXZ.block D1 (Array.getElem?_eq_some_iff.1 hK1).1).trans hK1
      have hne : D0 < D1 ∧ w.heap.size + 3 < D0 := by have := HG1.out; have := HT1.out.2.2.2; exact ⟨by omega, by omega⟩
      have HQ2 := Lib.hid (And.intro hgU hX2)
      have HR := Lib.hid hE2.1.2.2.1
      have HD := Lib.hid (And.intro hd0 (And.intro hd1 (And.intro hne hE2.2.2.2.2)))
      have cU := cell_of_row X2 _ 0 _ _ _ kU
      clear hXZ kU hE2 hd0 hd1 hne hgU hX2 hE kT kN hmk hK0 hK1 hD1 HT1 HG1 HI1 HM1
      go_wp2_with fail
      rw [HQ2.out.1, HQ2.out.2]
      clear HQ2 cT cN cW
      rw [rounds_succ]
      go_wp2_with (first | (go_at_call 9; refine (works_any10 _).mono ?_; rintro e wz ⟨rfl, hz⟩; have hR := HR.out.keep hz; have f0 := frozen_of_row _ _ 0 _ _ hR; have d0 := cell_of_row _ _ 0 _ _ _ hR; have HZ := Lib.hid (And.intro hR hz); clear hz hR) | fail)
      have hz := HZ.out.2
      obtain ⟨hd0, hd1, ⟨hne, hwD⟩, hwX⟩ := HD.out
      have hDY : (wz.setCell ⟨w.heap.size + 1 + 1, 0, none⟩ (.bool true)).heap[D0]? = some (.deferred (some [])) := (Below.heap_setCell wz ⟨w.heap.size + 1 + 1, 0, none⟩ _ D0 (by simp; omega)).trans ((hz.block D0 (Array.getElem?_eq_some_iff.1 hd0).1).trans hd0)
      have hEY : (wz.setCell ⟨w.heap.size + 1 + 1, 0, none⟩ (.bool true)).heap[D1]? = some (.deferred (some [])) := (Below.heap_setCell wz ⟨w.heap.size + 1 + 1, 0, none⟩ _ D1 (by simp; omega)).trans ((hz.block D1 (Array.getElem?_eq_some_iff.1 hd1).1).trans hd1)
      have bY : Blk (wz.setCell ⟨w.heap.size + 1 + 1, 0, none⟩ (.bool true)) (w.heap.size + 1 + 1) 4 #[.bool true] := heap_setCell_same wz _ 0 _ _ _ HZ.out.1
      have hBY : Below w.heap.size w (wz.setCell ⟨w.heap.size + 1 + 1, 0, none⟩ (.bool true)) := (bstep hwX hz).setCell (p := ⟨w.heap.size + 1 + 1, 0, none⟩) (by simp; omega) _
      obtain ⟨Y9, hY9⟩ : ∃ Y9, wz.setCell ⟨w.heap.size + 1 + 1, 0, none⟩ (.bool true) = Y9 := ⟨_, rfl⟩
      rw [hY9] at hDY hEY bY hBY ⊢
      clear hY9 hd0 hd1 hwX hz HZ HD f0 d0
      have hD2' : (Y9.putObj D1 (.deferred none)).heap[D0]? = some (.deferred (some [])) := (World.putObj_heap_other (by omega)).trans hDY
      have bY2 : Blk (Y9.putObj D1 (.deferred none)) (w.heap.size + 1 + 1) 4 #[.bool true] := bY.kept (grownBy_putObj' Y9 D1 _) (by intro e; cases e; omega)
      have bY3 : Blk ((Y9.putObj D1 (.deferred none)).putObj D0 (.deferred none)) (w.heap.size + 1 + 1) 4 #[.bool true] := bY2.kept (grownBy_putObj' _ D0 _) (by intro e; cases e; omega)
      have q0 := cell_of_row _ _ 0 _ _ _ bY3
      refine ⟨by simp, .inl ⟨_, _, rfl, run_takeDeferred hEY, ?_⟩⟩
      refine ⟨by simp, .inl ⟨_, _, rfl, run_takeDeferred hD2', ?_⟩⟩
      exact ⟨.bool true, by simp [results, Tryd.results4, go_sem, q0], rfl, (hBY.trans (below_put Y9 _ (by omega))).trans (below_put _ _ (by omega))⟩
    case stop2 =>
      rintro D1 e pre X1 hD1 _ ⟨_, ⟨_, h0, _⟩⟩ _
      exact absurd h0 (by decide)
end Go.Proofs.YtcdmaapjcckbmaaDoor

/- code's laws: CodeOps: the arguments opened. -/
namespace Go.Proofs.YtcdmaapjcckbmaaDoor
open Go.RowKit Go.ChangeShapes Go.WideShapes Go.ChangeAt

theorem take1 {α : Type} {cs : List α} {i : Nat} {v : α} (h : (cs.drop i).take 1 = [v]) : cs[i]? = some v := by
  have := congrArg (fun l : List α => l[0]?) h
  simpa [List.getElem?_take, List.getElem?_drop] using this
section
variable {H : Type} {enc : TypeId × Value → H} {X : World} {base : Nat} {sp : Nat → Bool} {held : Bool}
set_option maxRecDepth 100000 in
theorem bytes_open {fuel : Nat} {v : Value} {y : DataW H × List MemPlace} (h : DataW.trod enc Tryd.prog X base sp held fuel 32 [v] = some y) :
    ∃ l x c, v = .slice x l.length c ∧ Bto X.heap.size X v l ∧ ∀ n c, v = .slice none n c → c = 0 := by
  have hu : Tryd.prog.underlying 32 = some (.slice 5) := by kernel_rfl
  have hc : Tryd.prog.cellsOf 5 = 1 := by kernel_rfl
  have h8 : Tryd.prog.underlying 5 = some (.int .u8) := by kernel_rfl
  rcases Go.Deep.open_slice1 hu hc h with ⟨h0, _⟩ | ⟨a, len, cap, m, n, V, D, Pl, h0, hb, hl, hm, hmm, hx, hall⟩
  · simp at h0
    subst h0
    exact ⟨[], none, 0, rfl, ⟨by simp, none, 0, rfl, Nat.le_refl _, by simp, fun h => (h rfl).elim⟩, fun n c e => by cases e; rfl⟩
  · simp at h0
    subst h0
    have hlm : len ≤ m := by rw [hmm]; split <;> omega
    have hel : ∀ i, i < len → ∃ q : Nat, q < 256 ∧ X.cell? (a.add i) = some (.int .u8 q) := fun i hi => by
      obtain ⟨h1, h2⟩ := hall i (by omega)
      obtain ⟨z, e, _, hw⟩ := DataW.trod_int h8 h2
      simp at e
      have hz := bounds_u8 hw
      obtain ⟨q, rfl⟩ := Int.eq_ofNat_of_zero_le hz.1
      exact ⟨q, by omega, by rw [h1, e]⟩
    obtain ⟨f, hF⟩ := Go.Deep.choose_lt (α := Nat) (p := fun i q => q < 256 ∧ X.cell? (a.add i) = some (.int .u8 q)) hel
    have hL : ((List.range len).map f).length = len := by simp
    refine ⟨(List.range len).map f, some a, cap, by rw [hL], ⟨fun x hx => ?_, some a, cap, by rw [hL], by rw [hL]; exact hl, by rw [hL]; unfold maxLen at hm; omega, fun hne => ?_⟩, fun n c e => by cases e⟩
    · simp only [List.mem_map, List.mem_range] at hx
      obtain ⟨i, hi, rfl⟩ := hx
      exact (hF i hi).1
    · obtain ⟨b, o, spot⟩ := a
      have h0' : 0 < len := by rw [← hL]; exact List.length_pos_iff.2 hne
      have hspot : spot = none := by simpa [Addr.add] using World.cell?_spot (hF 0 h0').2
      subst hspot
      have hlt : b < X.heap.size := by
        have := World.block_lt_of_cell? X _ (hF 0 h0').2
        simpa [add_plain] using this
      refine ⟨b, o, rfl, hlt, hlt, fun k u hu => ?_⟩
      have hk : k < len := by have := (List.getElem?_eq_some_iff.1 hu).1; rwa [hL] at this
      rw [List.getElem?_map, List.getElem?_range hk] at hu
      cases hu
      have e1 := (hF k hk).2
      rwa [add_plain] at e1
set_option maxRecDepth 100000 in
theorem arg_bytes {r : Reach} {b0 : Nat} {v : Value} {d : DataW H} {p : List MemPlace} (_hv : Value.okWide Tryd.prog X r b0 32 v) (h : DataW.Trod enc Tryd.prog X base sp held 32 v d p) : ∃ l x c, v = .slice x l.length c ∧ Bto X.heap.size X v l ∧ ∀ n c, v = .slice none n c → c = 0 := by
  obtain ⟨x0, l0, c0, rfl⟩ := okWide_slice (show Tryd.prog.underlying 32 = some (.slice 5) by kernel_rfl) _hv
  obtain ⟨fuel, hf⟩ := h
  exact bytes_open (v := .slice x0 l0 c0) hf

end
set_option maxRecDepth 100000 in
theorem ops_all {H : Type} {enc : TypeId × Value → H} {X : World} {base base2 : Nat} {sp sp2 : Nat → Bool} {held held2 : Bool} {r r2 : Reach} {b0 b2 : Nat} {v0 v1 : Value} {d0 d1 : DataW H} {p0 p1 : List MemPlace} (hv0 : Value.okWide Tryd.prog X r b0 32 v0) (h0 : DataW.Trod enc Tryd.prog X base sp held 32 v0 d0 p0) (hv1 : Value.okWide Tryd.prog X r2 b2 3 v1) (h1 : DataW.Trod enc Tryd.prog X base2 sp2 held2 3 v1 d1 p1) :
    Calls Tryd.prog 4 #[v0, v1] X fun e w' => e = .returned (.bool true) ∧ Below X.heap.size X w' := by
  obtain ⟨l, x, c, rfl, hl, _⟩ := arg_bytes hv0 h0
  obtain ⟨k, rfl, _, _, _⟩ := open_int Tryd.underlying3 hv1 h1
  exact ops_walk X.heap.size _ l k X (Nat.le_refl _) hl
end Go.Proofs.YtcdmaapjcckbmaaDoor

