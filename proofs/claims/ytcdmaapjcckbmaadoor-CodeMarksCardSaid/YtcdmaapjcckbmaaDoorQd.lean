/- Texts laid into one: Qd. -/
import Derived.Test.YtcdmaapjcckbmaaDoorXo
import Derived.Test.YtcdmaapjcckbmaaDoorXj
import Derived.Test.YtcdmaapjcckbmaaDoorXs
import Derived.Deep.LoopGhost
import Derived.Test.YtcdmaapjcckbmaaDoorWy
import Derived.Test.YtcdmaapjcckbmaaDoorXr
import Derived.Test.YtcdmaapjcckbmaaDoorQa
import Derived.Test.YtcdmaapjcckbmaaDoorQc
/- code: the reference: Ops. -/
namespace Go.Proofs.YtcdmaapjcckbmaaDoor
open Go.RowKit Go.Shelf

theorem oi_z : ∀ n : Fin 256, (oi n.val).z = szO n.val := by decide +kernel
def plK (l : List Nat) (k : Nat) : List Nat := (List.range k).map (pos l)
theorem plK_len (l : List Nat) (k : Nat) : (plK l k).length = k := by simp [plK]
theorem plK_next (l : List Nat) (k : Nat) : plK l (k + 1) = plK l k ++ [pos l k] := by
  unfold plK; rw [List.range_succ, List.map_append]; rfl
theorem grown_own {X Y : World} {o : Option Nat} {B : Nat} (h : X.grownBy Y o) (ho : ∀ k, o = some k → B ≤ k) (hB : B ≤ X.heap.size) : Below B X Y :=
  ⟨h.os, h.tape, h.output, h.size, fun k hk => h.block k (by omega) (fun e => by have := ho k e.symm; omega)⟩
theorem field_z (a0 a1 a2 a3 a4 : Value) (z : Int) (w : World) : (Instr.field 25 (.agg #[a0, a1, a2, a3, a4, .int .i64 z]) 5).run Tryd.prog w = .ok (.int .i64 z) w := by kernel_rfl
set_option maxRecDepth 100000 in
set_option maxHeartbeats 4000000 in
theorem rops_any (B : Nat) (v : Value) (l : List Nat) (hl : l.length ≤ 1000) (w : World) (hB : B ≤ w.heap.size) (hv : Bto B w v l) : Calls Tryd.prog 14 #[v] w fun e w' => ∃ y c, e = .returned (.slice y (plL l).length c) ∧ OwI w' w.heap.size (.slice y (plL l).length c) (plL l) ∧ Below w.heap.size w w' := by
  obtain ⟨x0, c0, rfl⟩ : ∃ x0 c0, v = .slice x0 l.length c0 := by obtain ⟨_, x, c, h, _⟩ := hv; exact ⟨x, c, h⟩
  have HV := Lib.hid hv
  have HL := Lib.hid (And.intro hl hB)
  clear hv hl hB
  go_enter Tryd.func14, Tryd.ntmps14
  go_wp2_with fail
  go_loopg [3, 4] (opsN l) (fun g t3 t4 wr => ∃ k y c, g + k = opsN l ∧ t3 = .slice y (plK l k).length c ∧ t4 = .int .i64 (pos l k : Nat) ∧ OwI wr w.heap.size (.slice y (plK l k).length c) (plK l k) ∧ Below w.heap.size w wr)
  case atStart => exact ⟨0, none, 0, rfl, rfl, rfl, World.ownsRow_nil _ _ _ _, Below.refl _ _⟩
  case round =>
    obtain ⟨k, y, c, hk, rfl, rfl, hO, hW⟩ := hrel
    have hV := HV.out.kept hW.size (fun b hb h2 => hW.block b h2)
    by_cases hlt : pos l k < l.length
    · have hkn := opsN_lt.2 hlt
      obtain ⟨_, x, c', hx, h3, h4, h5⟩ := hV
      obtain ⟨b, o, e, hbB, hbX, hc⟩ := h5 (by intro e; rw [e] at hlt; simp at hlt)
      injection hx with hx1 hx2 hx3
      subst hx1
      subst hx3
      subst e
      have hcb := hc _ _ (opB_at hlt)
      have hob : opB l k < 256 := HV.out.1 _ (List.mem_of_getElem? (opB_at hlt))
      have hz := oi_z ⟨opB l k, hob⟩
      simp only at hz
      have hps : pos l (k + 1) = pos l k + 1 + szO (opB l k) := rfl
      have hsz := szO_le (opB l k)
      have hpI : (pos l k : Int) < (l.length : Int) := by omega
      have hp0 : (0 : Int) ≤ (pos l k : Int) := by omega
      have g1 : IntKind.i64.wrap ((pos l k : Int) + 1) = ((pos l k + 1 : Nat) : Int) := by rw [IntWalk.i64_in _ (by have := HL.out; omega)]; omega
      have g2 : IntKind.i64.wrap ((pos l k : Int) + 1 + ((szO (opB l k) : Nat) : Int)) = ((pos l (k + 1) : Nat) : Int) := by rw [IntWalk.i64_in _ (by have := HL.out; omega), hps]; omega
      have hwr := hW.size
      have hkl : k ≤ 1000 := by have := (opsN_spec l).2.1; have := HL.out.1; omega
      obtain ⟨y2, c2, w2, hrun, hO2, hG2⟩ := app_int wr w.heap.size _ (plK l k) (pos l k) 33 hO hwr (by rw [plK_len]; omega)
      rw [← plK_next] at hrun hO2
      have hB2 : Below w.heap.size (wr.alloc (.cells #[.int .i64 (pos l k : Nat)] 3)) w2 := grown_own hG2 (fun q e => (World.ownsRow.lt hO q e).1) (by rw [World.size_alloc]; omega)
      have hW2 := (balloc hW (.cells #[.int .i64 (pos l k : Nat)] 3)).trans hB2
      have hc2 : w2.cell? ⟨b, o + pos l k, none⟩ = some (.int .u8 (opB l k : Nat)) := (cell_heap (p := ⟨b, o + pos l k, none⟩) (((balloc (Below.refl wr.heap.size wr) (.cells #[.int .i64 (pos l k : Nat)] 3)).block b hbX |> fun h => (hB2.block b (by have := HL.out.2; omega)).trans h))).trans hcb
      have HI := Lib.hid (fun w => rinfo_any (opB l k) hob w)
      unfold oiC at HI
      rw [hz] at HI
      have hfl := fun w => field_z (.string ⟨(oi (opB l k)).nm.toArray⟩) (.int .i64 (oi (opB l k)).i) (.int .i64 (oi (opB l k)).o) (.int .u64 (oi (opB l k)).g) (.bool (oi (opB l k)).q) (szO (opB l k) : Nat) w
      have HS := Lib.hid (And.intro hO2 (And.intro hW2 (And.intro hk hkn)))
      clear hO hW hcb hc h3 h4 h5 hx2 hbX hbB hob hz hps hsz hG2 hB2 hO2 hW2 hk hkn hkl hlt
      generalize (plK l k).length = m0 at *
      generalize hm1 : (plK l (k + 1)).length = m1 at *
      go_wp2_with (first
        | (at_builtin; refine wpList_plain rfl fun K hK => ?_; refine wp_app_run (.tmp 18) (.tmp 20) 33 rfl rfl rfl hrun ?_; refine hK _ _ ?_; clear hK K)
        | (go_at_call 11; refine (HI.out _).mono ?_; rintro e w3 ⟨rfl, h3⟩)
        | fail)
      have HE := Lib.hid (And.intro (World.ownsRow.kept HS.out.1 (grown_new h3) (by cases (Value.slice y2 m1 c2).ownBlock <;> simp)) (bstep HS.out.2.1 h3))
      clear h3 hfl hc2 g1 g2 hpI hp0 hwr
      have HK := Lib.hid HS.out.2.2
      clear HS
      go_roundg (gk - 1)
      case measure => have := HK.out; omega
      case rel => exact ⟨k + 1, y2, c2, by have := HK.out; omega, by rw [hm1], rfl, by rw [hm1]; exact HE.out.1, HE.out.2⟩
    · have hpI : ¬ (pos l k : Int) < (l.length : Int) := by omega
      obtain rfl : k = opsN l := by
        rcases Nat.lt_or_ge k (opsN l) with h | h
        · exact absurd (opsN_lt.1 h) hlt
        · omega
      have HE := Lib.hid (And.intro hO hW)
      clear hO hW hV hlt hk
      go_wp2_with fail
      go_ret
      exact ⟨y, c, rfl, HE.out⟩
end Go.Proofs.YtcdmaapjcckbmaaDoor

/- code: the reference: Marks, In. -/
namespace Go.Proofs.YtcdmaapjcckbmaaDoor
open Go.RowKit Go.Shelf

theorem owI_at {X : World} {base c k x : Nat} {y : Option Addr} {L : List Nat} (h : OwI X base (.slice y L.length c) L) (hk : L[k]? = some x) : ∃ g, y = some ⟨g, 0, none⟩ ∧ base ≤ g ∧ g < X.heap.size ∧ X.cell? ⟨g, k, none⟩ = some (.int .i64 (x : Nat)) := by
  have hkl : k < L.length := (List.getElem?_eq_some_iff.1 hk).1
  obtain ⟨g, c2, hv⟩ := Go.Joins.ownsRow_form h (by omega)
  injection hv with hy hn hc
  subst hy
  have hlt := World.ownsRow.lt h g rfl
  refine ⟨g, rfl, hlt.1, hlt.2, ?_⟩
  have := World.ownsRow.cellAt h k (by omega)
  rw [this]
  simp [ivs, hk]
theorem plL_at {l : List Nat} {k : Nat} (h : k < opsN l) : (plL l)[k]? = some (pos l k) := by
  unfold plL
  rw [List.getElem?_map, List.getElem?_range h]
  rfl
theorem plL_len (l : List Nat) : (plL l).length = opsN l := by simp [plL]
set_option maxRecDepth 100000 in
set_option maxHeartbeats 4000000 in
theorem rmarks_any (B : Nat) (v : Value) (l : List Nat) (hl : l.length ≤ 1000) (w : World) (hB : B ≤ w.heap.size) (hv : Bto B w v l) : Calls Tryd.prog 17 #[v] w fun e w' => ∃ y c, e = .returned (.slice y (mkL l).length c) ∧ OwI w' w.heap.size (.slice y (mkL l).length c) (mkL l) ∧ Below w.heap.size w w' := by
  have HR := Lib.hid (rops_any B v l hl w hB hv)
  obtain ⟨x0, c0, rfl⟩ : ∃ x0 c0, v = .slice x0 l.length c0 := by obtain ⟨_, x, c, h, _⟩ := hv; exact ⟨x, c, h⟩
  have HV := Lib.hid hv
  have HL := Lib.hid (And.intro hl hB)
  clear hv hl hB
  go_enter Tryd.func17, Tryd.ntmps17
  go_wp2_with (first
    | (go_at_call 14; refine (HR.out).mono ?_; rintro e w1 ⟨yL, cL, rfl, hL, h1⟩)
    | fail)
  have HM := Lib.hid (And.intro hL (And.intro h1 (And.intro (HV.out.kept h1.size (fun b _ h2 => h1.block b h2)) (Nat.le_trans HL.out.2 h1.size))))
  have hw1 := h1.size
  clear hL h1 HR
  rw [plL_len] at HM ⊢
  go_loopg [3, 5] (opsN l) (fun g t3 t5 wr => ∃ k y c, g + k = opsN l ∧ t3 = .slice y (mkK l k).length c ∧ t5 = .int .i64 (k : Nat) ∧ OwI wr w1.heap.size (.slice y (mkK l k).length c) (mkK l k) ∧ Below w1.heap.size w1 wr)
  case atStart => exact ⟨0, none, 0, rfl, rfl, rfl, World.ownsRow_nil _ _ _ _, Below.refl _ _⟩
  case round =>
    obtain ⟨k, y, c, hk, rfl, rfl, hO, hW⟩ := hrel
    by_cases hlt : k < opsN l
    · have hkI : (k : Int) < (opsN l : Int) := by omega
      have hpl := opsN_lt.1 hlt
      have hkn : k < 1000 := by have := (opsN_spec l).2.1; have := HL.out.1; omega
      obtain ⟨gL, hyL, hgb, hgl, hcL⟩ := owI_at (L := plL l) (k := k) (by rw [plL_len]; exact HM.out.1) (plL_at hlt)
      obtain ⟨_, x, c', hx, h3, h4, h5⟩ := HM.out.2.2.1
      obtain ⟨b, o, e, hbB, hbX, hc⟩ := h5 (by intro e; rw [e] at hpl; simp at hpl)
      injection hx with hx1 hx2 hx3
      subst hx1
      subst hx3
      subst e
      subst hyL
      have cL1 : wr.cell? ⟨gL, k, none⟩ = some (.int .i64 (pos l k : Nat)) := (cell_heap (p := ⟨gL, k, none⟩) (hW.block gL hgl)).trans hcL
      have cb : wr.cell? ⟨b, o + pos l k, none⟩ = some (.int .u8 (opB l k : Nat)) := (cell_heap (p := ⟨b, o + pos l k, none⟩) (hW.block b hbX)).trans (hc _ _ (opB_at hpl))
      have hpI : (pos l k : Int) < (l.length : Int) := by omega
      have hp0 : (0 : Int) ≤ (pos l k : Int) := by omega
      have hk0 : (0 : Int) ≤ (k : Int) := by omega
      have g1 : IntKind.i64.wrap ((k : Int) + 1) = ((k + 1 : Nat) : Int) := by rw [IntWalk.i64_in _ (by omega)]; omega
      have hwr := hW.size
      clear h3 h4 h5 hc hcL hgb hgl hbB hbX hx2 hpl
      by_cases hq : opB l k = 91
      · have hqI : ((opB l k : Int) == 91) = true := by rw [hq]; rfl
        have hml := mkK_len l k
        obtain ⟨y2, c2, w2, hrun, hO2, hG2⟩ := app_int wr w1.heap.size _ (mkK l k) (pos l k) 33 hO hwr (by omega)
        rw [← mkK_hit l k hq] at hrun hO2
        have hB2 : Below w1.heap.size (wr.alloc (.cells #[.int .i64 (pos l k : Nat)] 3)) w2 := grown_own hG2 (fun q e => (World.ownsRow.lt hO q e).1) (by rw [World.size_alloc]; omega)
        have hW2 := (balloc hW (.cells #[.int .i64 (pos l k : Nat)] 3)).trans hB2
        have HE := Lib.hid (And.intro hO2 (And.intro hW2 (And.intro hk hlt)))
        clear hO hW hml hG2 hB2 hO2 hW2 hk hlt hq hwr hkn
        generalize (mkK l k).length = m0 at *
        generalize hm1 : (mkK l (k + 1)).length = m1 at *
        go_wp2_with (first
          | (at_builtin; refine wpList_plain rfl fun K hK => ?_; refine wp_app_run (.tmp 22) (.tmp 27) 33 rfl rfl rfl hrun ?_; refine hK _ _ ?_; clear hK K)
          | fail)
        go_roundg (gk - 1)
        case measure => have := HE.out.2.2; omega
        case rel => exact ⟨k + 1, y2, c2, by have := HE.out.2.2; omega, by rw [hm1], rfl, by rw [hm1]; exact HE.out.1, HE.out.2.1⟩
      · have hqI : ((opB l k : Int) == 91) = false := by rw [beq_eq_false_iff_ne]; omega
        rw [← mkK_miss l k hq] at hO
        have hmm := mkK_miss l k hq
        have HE := Lib.hid (And.intro hO (And.intro hW (And.intro hk hlt)))
        rw [← hmm]
        clear hO hW hk hlt hq hwr hkn hmm
        generalize hm1 : (mkK l (k + 1)).length = m1 at *
        go_wp2_with fail
        go_roundg (gk - 1)
        case measure => have := HE.out.2.2; omega
        case rel => exact ⟨k + 1, y, c, by have := HE.out.2.2; omega, by rw [hm1], rfl, by rw [hm1]; exact HE.out.1, HE.out.2.1⟩
    · obtain rfl : k = opsN l := by omega
      have hkI : ¬ (opsN l : Int) < (opsN l : Int) := by omega
      have HE := Lib.hid (And.intro (hO.mono hw1) ((HM.out.2.1).trans (hW.mono hw1)))
      clear hO hW hlt hk
      go_wp2_with fail
      go_ret
      exact ⟨y, c, rfl, HE.out⟩
end Go.Proofs.YtcdmaapjcckbmaaDoor

/- code: the reference: In. -/
namespace Go.Proofs.YtcdmaapjcckbmaaDoor
open Go.RowKit Go.Shelf

set_option maxRecDepth 100000 in
set_option maxHeartbeats 2000000 in
theorem rin_any (base : Nat) (y : Option Addr) (c : Nat) (L : List Nat) (n : Nat) (hn : L.length ≤ 100000) (w : World) (h : OwI w base (.slice y L.length c) L) : Calls Tryd.prog 44 #[.slice y L.length c, .int .i64 (n : Nat)] w fun e w' => e = .returned (.bool (decide (n ∈ L))) ∧ w = w' := by
  have HO := Lib.hid (And.intro h hn)
  clear h hn
  obtain ⟨N, hN⟩ : ∃ N, L.length = N := ⟨_, rfl⟩
  have HN := Lib.hid hN
  rw [hN]
  clear hN
  go_enter Tryd.func44, Tryd.ntmps44
  go_wp2_with fail
  go_loopw [5] (fun t5 wr => ∃ k : Nat, k ≤ N ∧ t5 = .int .i64 (k : Nat) ∧ (∀ j, j < k → L[j]? ≠ some n) ∧ w = wr) (fun t5 _ => ((N : Int) - intOf t5).toNat)
  case atStart => exact ⟨0, Nat.zero_le _, rfl, fun j hj => by omega, rfl⟩
  case round =>
    obtain ⟨k, hk, rfl, hm, rfl⟩ := hrel
    by_cases hlt : k < N
    · have hkI : (k : Int) < (N : Int) := by omega
      have hk0 : (0 : Int) ≤ (k : Int) := by omega
      have g1 : IntKind.i64.wrap ((k : Int) + 1) = ((k + 1 : Nat) : Int) := by rw [IntWalk.i64_in _ (by have := HO.out.2; have := HN.out; omega)]; omega
      obtain ⟨x, hx⟩ : ∃ x, L[k]? = some x := ⟨_, List.getElem?_eq_getElem (by have := HN.out; omega)⟩
      obtain ⟨g, rfl, _, _, hc⟩ := owI_at HO.out.1 hx
      by_cases e : x = n
      · subst e
        have hq : ((x : Int) == (x : Int)) = true := by simp
        have hin : decide (x ∈ L) = true := by rw [decide_eq_true_iff]; exact List.mem_of_getElem? hx
        have HI := Lib.hid hin
        clear hin hm hx
        go_wp2_with fail
        go_ret
        exact ⟨congrArg (fun b => Ending.returned (.bool b)) HI.out.symm, rfl⟩
      · have hq : ((x : Int) == (n : Int)) = false := by rw [beq_eq_false_iff_ne]; omega
        have HM := Lib.hid (show ∀ j, j < k + 1 → L[j]? ≠ some n from fun j hj => by
          by_cases h2 : j < k
          · exact hm j h2
          · obtain rfl : j = k := by omega
            rw [hx]
            intro h3
            injection h3 with h3
            exact e h3)
        clear hm hx e
        go_wp2_with fail
        exact ⟨⟨k + 1, by omega, by go_num, HM.out, trivial⟩, by simp [intOf]; omega⟩
    · obtain rfl : k = N := by omega
      have hkI : ¬ (k : Int) < (k : Int) := by omega
      have hin : decide (n ∈ L) = false := by
        rw [decide_eq_false_iff_not]
        intro hmem
        obtain ⟨j, hj⟩ := List.getElem?_of_mem hmem
        have := (List.getElem?_eq_some_iff.1 hj).1
        exact hm j (by have := HN.out; omega) hj
      have HI := Lib.hid hin
      clear hin hm
      go_wp2_with fail
      go_ret
      exact ⟨congrArg (fun b => Ending.returned (.bool b)) HI.out.symm, rfl⟩
end Go.Proofs.YtcdmaapjcckbmaaDoor

/- code: the reference: Mark. -/
namespace Go.Proofs.YtcdmaapjcckbmaaDoor
open Go.RowKit Go.Shelf

theorem pos_inj {l : List Nat} {i j : Nat} (h : pos l i = pos l j) : i = j := by
  rcases Nat.lt_trichotomy i j with h2 | h2 | h2
  · have := pos_mono l h2; omega
  · exact h2
  · have := pos_mono l h2; omega
theorem mem_mkL (l : List Nat) (q : Nat) : decide (q ∈ mkL l) = mkS l (q : Nat) := by
  rw [Bool.eq_iff_iff, decide_eq_true_iff]
  have hin : q ∈ mkL l ↔ ∃ k, k < opsN l ∧ opB l k = 91 ∧ pos l k = q := by
    unfold mkL mkK
    rw [List.mem_map]
    constructor
    · rintro ⟨k, hk, e⟩
      obtain ⟨h1, h2⟩ := List.mem_filter.1 hk
      exact ⟨k, List.mem_range.1 h1, by simpa using h2, e⟩
    · rintro ⟨k, h1, h2, e⟩
      exact ⟨k, List.mem_filter.2 ⟨List.mem_range.2 h1, by simpa using h2⟩, e⟩
  rw [hin]
  unfold mkS oaS oaB
  cases h : opI l (q : Nat) with
  | none =>
    simp only [Option.isSome_none, Bool.false_and, Bool.false_eq_true, iff_false]
    rintro ⟨k, h1, _, e⟩
    unfold opI at h
    rw [List.find?_eq_none] at h
    have := h k (List.mem_range.2 h1)
    simp [e] at this
  | some k =>
    obtain ⟨h1, h2⟩ := opI_some h
    simp only [Option.isSome_some, Bool.true_and, decide_eq_true_iff]
    constructor
    · rintro ⟨j, _, h4, e⟩
      have : pos l j = pos l k := by omega
      rw [← pos_inj this]
      exact h4
    · intro h4
      exact ⟨k, h1, h4, by omega⟩
set_option maxRecDepth 100000 in
set_option maxHeartbeats 4000000 in
theorem rmark_any (B : Nat) (v : Value) (l : List Nat) (hl : l.length ≤ 1000) (a : Nat) (w : World) (hB : B ≤ w.heap.size) (hv : Bto B w v l) : Calls Tryd.prog 22 #[v, W a] w fun e w' => e = .returned (.bool (mkB l a)) ∧ Below w.heap.size w w' := by
  have HM := Lib.hid (rsmall_any a)
  obtain ⟨x0, c0, rfl⟩ : ∃ x0 c0, v = .slice x0 l.length c0 := by obtain ⟨_, x, c, h, _⟩ := hv; exact ⟨x, c, h⟩
  have hs0 := smV_le a
  have hW := balloc (Below.refl w.heap.size w) (.cells (Wc a) 40)
  have hv2 := hv.new hW
  have gl : IntKind.u64.wrap (l.length : Int) = (l.length : Int) := IntWalk.u64_in _ (by omega)
  have HV := Lib.hid (And.intro hv2 (And.intro hW hB))
  have HL := Lib.hid hl
  cases hb : smB a with
  | false =>
    rw [show mkB l a = false by unfold mkB; rw [hb]; rfl]
    rw [hb] at HM
    clear hv hv2 hW hB hl
    generalize l.length = n at *
    go_enter Tryd.func22, Tryd.ntmps22
    go_wp2_with (first
      | (go_at_call 47; refine (HM.out _).mono ?_; rintro e w1 ⟨rfl, hw⟩; have H1 := Lib.hid hw; clear hw)
      | fail)
    go_ret
    exact ⟨rfl, bstep HV.out.2.1 H1.out⟩
  | true =>
    rw [hb] at HM
    by_cases hf : (l.length : Int) ≤ smV a
    · rw [show mkB l a = false by unfold mkB; rw [mkS_far hf]; simp]
      clear hv hv2 hW hB hl hb
      generalize smV a = s at *
      generalize l.length = n at *
      have hf2 : ¬ s < (n : Int) := by omega
      go_enter Tryd.func22, Tryd.ntmps22
      go_wp2_with (first
        | (go_at_call 47; refine (HM.out _).mono ?_; rintro e w1 ⟨rfl, hw⟩; have H1 := Lib.hid hw; clear hw)
        | fail)
      go_ret
      exact ⟨rfl, bstep HV.out.2.1 H1.out⟩
    · have hq : ∃ q : Nat, smV a = (q : Nat) := ⟨(smV a).toNat, by omega⟩
      obtain ⟨q, hq⟩ := hq
      rw [show mkB l a = mkS l (smV a) by unfold mkB; rw [hb]; rfl, hq, ← mem_mkL]
      rw [hq] at HM hf hs0
      have g1 : IntKind.i64.wrap (q : Int) = (q : Int) := IntWalk.i64_in _ (by omega)
      have hf2 : (q : Int) < (l.length : Int) := by omega
      have HR := Lib.hid (fun (X : World) h1 h2 => rmarks_any B (.slice x0 l.length c0) l hl X h1 h2)
      have hml := mkK_len l (opsN l)
      have hol := (opsN_spec l).2.1
      have HI := Lib.hid (fun base y c (X : World) h => rin_any base y c (mkL l) q (by show (mkK l (opsN l)).length ≤ 100000; omega) X h)
      clear hv hv2 hW hB hl hb hq hml hol
      generalize decide (q ∈ mkL l) = d at *
      generalize l.length = n at *
      go_enter Tryd.func22, Tryd.ntmps22
      go_wp2_with (first
        | (go_at_call 47; refine (HM.out _).mono ?_; rintro e w1 ⟨rfl, hw⟩; have H1 := Lib.hid hw; clear hw)
        | (go_at_call 17; refine (HR.out _ (Nat.le_trans HV.out.2.2 (Nat.le_trans HV.out.2.1.size H1.out.size)) (HV.out.1.new H1.out)).mono ?_; rintro e w2 ⟨y, c, rfl, hO, hw⟩; have H2 := Lib.hid (And.intro hO hw); clear hO hw)
        | (go_at_call 44; refine (HI.out _ _ _ _ H2.out.1).mono ?_; rintro e w3 ⟨rfl, rfl⟩)
        | fail)
      go_ret
      exact ⟨rfl, bstep (bstep HV.out.2.1 H1.out) H2.out.2⟩
end Go.Proofs.YtcdmaapjcckbmaaDoor

/- code: the reference: behind. -/
namespace Go.Proofs.YtcdmaapjcckbmaaDoor
open Go.RowKit Go.Shelf

/-- behind's row under way. -/
def bhR (l : List Nat) (p m k : Nat) : List Nat := (List.range m).map fun i => if i < k then l.getD (p + 1 + i) 0 else 0
theorem bhR_zero (l : List Nat) (p m : Nat) : bhR l p m 0 = List.replicate m 0 := by
  unfold bhR
  apply List.ext_getElem?
  intro i
  by_cases h : i < m
  · rw [List.getElem?_map, List.getElem?_range h, List.getElem?_replicate_of_lt h]; rfl
  · rw [List.getElem?_eq_none (by simp; omega), List.getElem?_eq_none (by simp; omega)]
theorem bhR_all (l : List Nat) (p m : Nat) (hm : szO (l.getD p 0) = m) : bhR l p m m = bhL l p := by
  unfold bhR bhL
  rw [hm]
  apply List.map_congr_left
  intro i hi
  rw [if_pos (List.mem_range.1 hi)]
theorem bhR_set (l : List Nat) (p m k x : Nat) (h : k < m) (hx : l.getD (p + 1 + k) 0 = x) : (bvs (bhR l p m k)).toArray.setIfInBounds k (.int .u8 (x : Nat)) = (bvs (bhR l p m (k + 1))).toArray := by
  subst hx
  apply Array.ext_getElem?
  intro j
  rw [Array.getElem?_setIfInBounds, List.getElem?_toArray, List.getElem?_toArray, bvs_get, bvs_get]
  unfold bhR
  by_cases hj : j < m
  · rw [List.getElem?_map, List.getElem?_map, List.getElem?_range hj]
    by_cases e : k = j
    · subst e
      simp [bvs, h]
    · rw [if_neg e]
      by_cases h2 : j < k
      · simp [h2, show j < k + 1 by omega]
      · simp [h2, show ¬ j < k + 1 by omega]
  · rw [if_neg (by omega), List.getElem?_eq_none (by simp; omega), List.getElem?_eq_none (by simp; omega)]
theorem bhR_miss (l : List Nat) (p m k : Nat) (hx : l.getD (p + 1 + k) 0 = 0) : bhR l p m (k + 1) = bhR l p m k := by
  unfold bhR
  apply List.map_congr_left
  intro i _
  by_cases h : i < k
  · rw [if_pos h, if_pos (by omega)]
  · by_cases e : i = k
    · subst e; rw [if_pos (by omega), if_neg h, hx]
    · rw [if_neg (by omega), if_neg h]
set_option maxRecDepth 100000 in
set_option maxHeartbeats 4000000 in
theorem rbehind_any (B : Nat) (v : Value) (l : List Nat) (p : Nat) (hl : l.length ≤ 1000) (hp : p < l.length) (w : World) (hv : Bto B w v l) : Calls Tryd.prog 46 #[v, .int .i64 p] w fun e w' => ∃ g, e = .returned (.slice (some ⟨g, 0, none⟩) (bhL l p).length (bhL l p).length) ∧ w.heap.size ≤ g ∧ Blk w' g 5 (bvs (bhL l p)).toArray ∧ Below w.heap.size w w' := by
  obtain ⟨h1, x0, c0, rfl, h3, h4, h5⟩ := hv
  obtain ⟨b, o, rfl, hbB, hbX, hc⟩ := h5 (by intro e; rw [e] at hp; simp at hp)
  have hxp : l[p]? = some (l.getD p 0) := by rw [List.getD_eq_getElem?_getD, List.getElem?_eq_getElem hp]; rfl
  have hcp := hc _ _ hxp
  have hob : l.getD p 0 < 256 := h1 _ (List.mem_of_getElem? hxp)
  have hz := oi_z ⟨l.getD p 0, hob⟩
  simp only at hz
  have HI := Lib.hid (fun w => rinfo_any (l.getD p 0) hob w)
  unfold oiC at HI
  obtain ⟨m, hm⟩ : ∃ m, szO (l.getD p 0) = m := ⟨_, rfl⟩
  rw [hz, hm] at HI
  have hm32 : m ≤ 32 := by rw [← hm]; exact szO_le _
  have hbl : (bhL l p).length = m := by rw [bhL_len, hm]
  rw [hbl]
  have hfl := fun w => field_z (.string ⟨(oi (l.getD p 0)).nm.toArray⟩) (.int .i64 (oi (l.getD p 0)).i) (.int .i64 (oi (l.getD p 0)).o) (.int .u64 (oi (l.getD p 0)).g) (.bool (oi (l.getD p 0)).q) (m : Nat) w
  have hmk := make_bytes m (by omega)
  rw [← bhR_zero l p m] at hmk
  have HC := Lib.hid hc
  have HL := Lib.hid (And.intro hl (And.intro hp (And.intro hm hm32)))
  have hpI : (p : Int) < (l.length : Int) := by omega
  have hp0 : (0 : Int) ≤ (p : Int) := by omega
  have hm0 : (0 : Int) ≤ (m : Int) := by omega
  have gp : IntKind.i64.wrap ((p : Int) + 1) = ((p + 1 : Nat) : Int) := by rw [IntWalk.i64_in _ (by omega)]; omega
  clear h1 h3 h4 h5 hc hxp hob hz hm hm32 hbl hl hp hbB
  generalize hx : l.getD p 0 = x at *
  go_enter Tryd.func46, Tryd.ntmps46
  go_wp2_with (first
    | (go_at_call 11; refine (HI.out _).mono ?_; rintro e w1 ⟨rfl, hw⟩; have H1 := Lib.hid (And.intro hw hbX); clear hw)
    | fail)
  have hW1 := H1.out.1.size
  go_loopw [6] (fun t6 wr => ∃ k : Nat, k ≤ m ∧ t6 = .int .i64 (k : Nat) ∧ Blk wr w1.heap.size 5 (bvs (bhR l p m k)).toArray ∧ Below w1.heap.size w1 wr) (fun t6 _ => ((m : Int) - intOf t6).toNat)
  case atStart => exact ⟨0, Nat.zero_le _, rfl, Blk.new w1 _ _, balloc (Below.refl _ _) _⟩
  case round =>
    obtain ⟨k, hk, rfl, hb, hW⟩ := hrel
    by_cases hlt : k < m
    · have hkI : (k : Int) < (m : Int) := by omega
      have hk0 : (0 : Int) ≤ (k : Int) := by omega
      have gk : IntKind.i64.wrap ((k : Int) + 1) = ((k + 1 : Nat) : Int) := by rw [IntWalk.i64_in _ (by have := HL.out; omega)]; omega
      have g2 : IntKind.i64.wrap ((p : Int) + 1 + (k : Int)) = ((p + 1 + k : Nat) : Int) := by rw [IntWalk.i64_in _ (by have := HL.out; omega)]; omega
      by_cases hin : p + 1 + k < l.length
      · have hnI : ((p + 1 + k : Nat) : Int) < (l.length : Int) := by omega
        have hn0 : (0 : Int) ≤ ((p + 1 + k : Nat) : Int) := by omega
        have hxk : l[p + 1 + k]? = some (l.getD (p + 1 + k) 0) := by rw [List.getD_eq_getElem?_getD, List.getElem?_eq_getElem hin]; rfl
        have hck : wr.cell? ⟨b, o + (p + 1 + k), none⟩ = some (.int .u8 (l.getD (p + 1 + k) 0 : Nat)) := (cell_heap (p := ⟨b, o + (p + 1 + k), none⟩) ((hW.block b (by have := H1.out.2; omega)).trans (H1.out.1.block b H1.out.2))).trans (HC.out _ _ hxk)
        obtain ⟨z, hz⟩ : ∃ z, l.getD (p + 1 + k) 0 = z := ⟨_, rfl⟩
        rw [hz] at hck
        have hcell : ∃ u, wr.cell? ⟨w1.heap.size, k, none⟩ = some (.int .u8 (u : Int)) := by
          have h := cell_of_row _ _ k _ _ _ hb
          rw [List.getElem?_toArray, bvs_get] at h
          refine ⟨0, ?_⟩
          rw [h]
          unfold bhR
          rw [List.getElem?_map, List.getElem?_range hlt]
          simp
        obtain ⟨u, hcell⟩ := hcell
        have hfro := frozen_of_row wr _ k _ _ hb
        have hne : ¬ b = w1.heap.size := by have := H1.out.2; omega
        have hb2 : Blk (wr.setCell ⟨w1.heap.size, k, none⟩ (.int .u8 (z : Nat))) w1.heap.size 5 (bvs (bhR l p m (k + 1))).toArray := by rw [← bhR_set l p m k z hlt hz]; exact heap_setCell_same wr _ k _ _ _ hb
        have hW2 := hW.setCell (p := ⟨w1.heap.size, k, none⟩) (Nat.le_refl _) (.int .u8 (z : Nat))
        have HE := Lib.hid (And.intro hb2 (And.intro hW2 hlt))
        clear hb hW hlt hk hb2 hW2 hin hxk hz
        go_wp2_with fail
        exact ⟨⟨k + 1, (by have := HE.out.2.2; omega), (by go_num), HE.out.1, HE.out.2.1⟩, (by have := HE.out.2.2; simp [intOf]; omega)⟩
      · have hnI : ¬ ((p + 1 + k : Nat) : Int) < (l.length : Int) := by omega
        have hxk : l.getD (p + 1 + k) 0 = 0 := by rw [List.getD_eq_getElem?_getD, List.getElem?_eq_none (by omega)]; rfl
        rw [← bhR_miss l p m k hxk] at hb
        have HE := Lib.hid (And.intro hb (And.intro hW hlt))
        clear hb hW hlt hk hxk hin
        go_wp2_with fail
        exact ⟨⟨k + 1, (by have := HE.out.2.2; omega), (by go_num), HE.out.1, HE.out.2.1⟩, (by have := HE.out.2.2; simp [intOf]; omega)⟩
    · obtain rfl : k = m := by omega
      have hkI : ¬ (k : Int) < (k : Int) := by omega
      rw [bhR_all l p k (by rw [hx]; exact HL.out.2.2.1)] at hb
      have HE := Lib.hid (And.intro hW1 (And.intro hb (H1.out.1.trans (hW.mono hW1))))
      clear hb hW hk hlt
      go_wp2_with fail
      go_ret
      exact ⟨_, rfl, HE.out⟩
end Go.Proofs.YtcdmaapjcckbmaaDoor

/- code: the reference: Push. -/

namespace Go.Proofs.YtcdmaapjcckbmaaDoor
open Go.RowKit Go.Shelf

theorem mem_plL (l : List Nat) (q : Nat) : decide (q ∈ plL l) = oaS l (q : Nat) := by
  rw [Bool.eq_iff_iff, decide_eq_true_iff]
  unfold plL oaS
  rw [List.mem_map]
  cases h : opI l (q : Nat) with
  | none =>
    simp only [Option.isSome_none, Bool.false_eq_true, iff_false]
    rintro ⟨k, h1, e⟩
    exact opI_none h k (List.mem_range.1 h1) (by omega)
  | some k =>
    obtain ⟨h1, h2⟩ := opI_some h
    simp only [Option.isSome_some, iff_true]
    exact ⟨k, List.mem_range.2 h1, by omega⟩
set_option maxRecDepth 100000 in
set_option maxHeartbeats 2000000 in
theorem rin_neg (base : Nat) (y : Option Addr) (c : Nat) (L : List Nat) (n : Int) (hn0 : n < 0) (hn : L.length ≤ 100000) (w : World) (h : OwI w base (.slice y L.length c) L) : Calls Tryd.prog 44 #[.slice y L.length c, .int .i64 n] w fun e w' => e = .returned (.bool false) ∧ w = w' := by
  have HO := Lib.hid (And.intro h hn)
  clear h hn
  obtain ⟨N, hN⟩ : ∃ N, L.length = N := ⟨_, rfl⟩
  have HN := Lib.hid hN
  rw [hN]
  clear hN
  go_enter Tryd.func44, Tryd.ntmps44
  go_wp2_with fail
  go_loopw [5] (fun t5 wr => ∃ k : Nat, k ≤ N ∧ t5 = .int .i64 (k : Nat) ∧ w = wr) (fun t5 _ => ((N : Int) - intOf t5).toNat)
  case atStart => exact ⟨0, Nat.zero_le _, rfl, rfl⟩
  case round =>
    obtain ⟨k, hk, rfl, rfl⟩ := hrel
    by_cases hlt : k < N
    · have hkI : (k : Int) < (N : Int) := by omega
      have hk0 : (0 : Int) ≤ (k : Int) := by omega
      have g1 : IntKind.i64.wrap ((k : Int) + 1) = ((k + 1 : Nat) : Int) := by rw [IntWalk.i64_in _ (by have := HO.out.2; have := HN.out; omega)]; omega
      obtain ⟨x, hx⟩ : ∃ x, L[k]? = some x := ⟨_, List.getElem?_eq_getElem (by have := HN.out; omega)⟩
      obtain ⟨g, rfl, _, _, hc⟩ := owI_at HO.out.1 hx
      have hq : ((x : Int) == n) = false := by rw [beq_eq_false_iff_ne]; omega
      clear hx
      go_wp2_with fail
      exact ⟨⟨k + 1, by omega, by go_num, trivial⟩, by simp [intOf]; omega⟩
    · obtain rfl : k = N := by omega
      have hkI : ¬ (k : Int) < (k : Int) := by omega
      go_wp2_with fail
      go_ret
      exact ⟨rfl, rfl⟩
theorem rinP_any (base : Nat) (y : Option Addr) (c : Nat) (l : List Nat) (place : Int) (hl : l.length ≤ 1000) (w : World) (h : OwI w base (.slice y (plL l).length c) (plL l)) : Calls Tryd.prog 44 #[.slice y (plL l).length c, .int .i64 place] w fun e w' => e = .returned (.bool (oaS l place)) ∧ w = w' := by
  have hn : (plL l).length ≤ 100000 := by rw [plL_len]; have := (opsN_spec l).2.1; omega
  by_cases h0 : place < 0
  · have : oaS l place = false := by
      unfold oaS
      cases hI : opI l place with
      | none => rfl
      | some k => have := (opI_some hI).2; omega
    rw [this]
    exact rin_neg base y c (plL l) place h0 hn w h
  · obtain ⟨q, rfl⟩ := Int.eq_ofNat_of_zero_le (show 0 ≤ place by omega)
    rw [← mem_plL]
    exact rin_any base y c (plL l) q hn w h
set_option maxRecDepth 100000 in
set_option maxHeartbeats 2000000 in
theorem rpush_none (B : Nat) (v : Value) (l : List Nat) (hl : l.length ≤ 1000) (place : Int) (w : World) (hB : B ≤ w.heap.size) (hv : Bto B w v l) (hs : oaS l place = false) : Calls Tryd.prog 21 #[v, .int .i64 place] w fun e w' => e = .returned (.tuple #[.agg #[.int .u64 0, .int .u64 0, .int .u64 0, .int .u64 0], .bool false]) ∧ Below w.heap.size w w' := by
  have hv2 := hv.new (balloc (Below.refl w.heap.size w) (.cells #[.int .u64 0, .int .u64 0, .int .u64 0, .int .u64 0] 40))
  have HR := Lib.hid (rops_any B v l hl _ (by rw [World.size_alloc]; omega) hv2)
  have HI := Lib.hid (fun base y c (X : World) h => rinP_any base y c l place hl X h)
  rw [hs] at HI
  obtain ⟨x0, c0, rfl⟩ : ∃ x0 c0, v = .slice x0 l.length c0 := by obtain ⟨_, x, c, h, _⟩ := hv; exact ⟨x, c, h⟩
  clear hv hv2 hB hl hs
  generalize (plL l).length = N at *
  go_enter Tryd.func21, Tryd.ntmps21
  go_wp2_with (first
    | (go_at_call 14; refine (HR.out).mono ?_; rintro e w1 ⟨yL, cL, rfl, hO, hw⟩; have hb := (keep4 hw).1
       have d0 := cell_of_row w1 _ 0 _ _ _ hb
       have d1 := cell_of_row w1 _ 1 _ _ _ hb
       have d2 := cell_of_row w1 _ 2 _ _ _ hb
       have d3 := cell_of_row w1 _ 3 _ _ _ hb
       have fd0 := frozen_of_row w1 _ 0 _ _ hb
       have fd1 := frozen_of_row w1 _ 1 _ _ hb
       have fd2 := frozen_of_row w1 _ 2 _ _ hb
       have fd3 := frozen_of_row w1 _ 3 _ _ hb
       have HH := Lib.hid (And.intro (keep4 hw) hO); clear hw hb hO)
    | (go_at_call 44; refine (HI.out _ _ _ _ HH.out.2).mono ?_; rintro e w2 ⟨rfl, rfl⟩)
    | fail)
  (try simp only [Exit.inBlock, Exit.then])
  refine bodyPost_ret (results_row_tmp rfl _ _ w.heap.size 40 _ (0, 0) _ rfl (Blk.set4w HH.out.1.1 _ _ _ _) undWd rfl (by kernel_rfl)) rfl ?_
  exact ⟨rfl, below_set4w HH.out.1.2 (Nat.le_refl _) _ _ _ _⟩
set_option maxRecDepth 100000 in
set_option maxHeartbeats 2000000 in
theorem rpush_low (B : Nat) (v : Value) (l : List Nat) (hl : l.length ≤ 1000) (place : Int) (w : World) (hB : B ≤ w.heap.size) (hv : Bto B w v l) (hs : oaS l place = true) (hz : oaB l place < 95) : Calls Tryd.prog 21 #[v, .int .i64 place] w fun e w' => e = .returned (.tuple #[.agg #[.int .u64 0, .int .u64 0, .int .u64 0, .int .u64 0], .bool false]) ∧ Below w.heap.size w w' := by
  have hv2 := hv.new (balloc (Below.refl w.heap.size w) (.cells #[.int .u64 0, .int .u64 0, .int .u64 0, .int .u64 0] 40))
  have HR := Lib.hid (rops_any B v l hl _ (by rw [World.size_alloc]; omega) hv2)
  have HI := Lib.hid (fun base y c (X : World) h => rinP_any base y c l place hl X h)
  rw [hs] at HI
  obtain ⟨p, hp, hpl, hpb⟩ := oaS_place hs
  obtain ⟨h1, x0, c0, rfl, h3, h4, h5⟩ := hv2
  obtain ⟨b, o, rfl, hbB, hbX, hc⟩ := h5 (by intro e; rw [e] at hpl; simp at hpl)
  have hcz := hc p (oaB l place) (by rw [List.getElem?_eq_getElem hpl, hpb, List.getD_eq_getElem?_getD, List.getElem?_eq_getElem hpl]; rfl)
  have hpI : (p : Int) < (l.length : Int) := by omega
  have hp0 : (0 : Int) ≤ (p : Int) := by omega
  have hzI : (oaB l place : Int) < 95 := by omega
  clear hs hz hv h1 h3 h4 h5 hc hpb hl hB hbB
  generalize oaB l place = z at *
  subst hp
  have HX := Lib.hid (And.intro hbX hcz)
  clear hbX hcz
  generalize (plL l).length = N at *
  go_enter Tryd.func21, Tryd.ntmps21
  go_wp2_with (first
    | (go_at_call 14; refine (HR.out).mono ?_; rintro e w1 ⟨yL, cL, rfl, hO, hw⟩; have hb := (keep4 hw).1
       have d0 := cell_of_row w1 _ 0 _ _ _ hb
       have d1 := cell_of_row w1 _ 1 _ _ _ hb
       have d2 := cell_of_row w1 _ 2 _ _ _ hb
       have d3 := cell_of_row w1 _ 3 _ _ _ hb
       have fd0 := frozen_of_row w1 _ 0 _ _ hb
       have fd1 := frozen_of_row w1 _ 1 _ _ hb
       have fd2 := frozen_of_row w1 _ 2 _ _ hb
       have fd3 := frozen_of_row w1 _ 3 _ _ hb
       have cz := (hw.cell (p := ⟨b, o + p, none⟩) HX.out.1).trans HX.out.2
       have HH := Lib.hid (And.intro (keep4 hw) hO); clear hw hb hO)
    | (go_at_call 44; refine (HI.out _ _ _ _ HH.out.2).mono ?_; rintro e w2 ⟨rfl, rfl⟩)
    | fail)
  (try simp only [Exit.inBlock, Exit.then])
  refine bodyPost_ret (results_row_tmp rfl _ _ w.heap.size 40 _ (0, 0) _ rfl (Blk.set4w HH.out.1.1 _ _ _ _) undWd rfl (by kernel_rfl)) rfl ?_
  exact ⟨rfl, below_set4w HH.out.1.2 (Nat.le_refl _) _ _ _ _⟩
set_option maxRecDepth 100000 in
set_option maxHeartbeats 2000000 in
theorem rpush_high (B : Nat) (v : Value) (l : List Nat) (hl : l.length ≤ 1000) (place : Int) (w : World) (hB : B ≤ w.heap.size) (hv : Bto B w v l) (hs : oaS l place = true) (hz : 127 < oaB l place) : Calls Tryd.prog 21 #[v, .int .i64 place] w fun e w' => e = .returned (.tuple #[.agg #[.int .u64 0, .int .u64 0, .int .u64 0, .int .u64 0], .bool false]) ∧ Below w.heap.size w w' := by
  have hv2 := hv.new (balloc (Below.refl w.heap.size w) (.cells #[.int .u64 0, .int .u64 0, .int .u64 0, .int .u64 0] 40))
  have HR := Lib.hid (rops_any B v l hl _ (by rw [World.size_alloc]; omega) hv2)
  have HI := Lib.hid (fun base y c (X : World) h => rinP_any base y c l place hl X h)
  rw [hs] at HI
  obtain ⟨p, hp, hpl, hpb⟩ := oaS_place hs
  obtain ⟨h1, x0, c0, rfl, h3, h4, h5⟩ := hv2
  obtain ⟨b, o, rfl, hbB, hbX, hc⟩ := h5 (by intro e; rw [e] at hpl; simp at hpl)
  have hcz := hc p (oaB l place) (by rw [List.getElem?_eq_getElem hpl, hpb, List.getD_eq_getElem?_getD, List.getElem?_eq_getElem hpl]; rfl)
  have hpI : (p : Int) < (l.length : Int) := by omega
  have hp0 : (0 : Int) ≤ (p : Int) := by omega
  have hzI : ¬ (oaB l place : Int) < 95 := by omega
  have hzJ : (127 : Int) < (oaB l place : Int) := by omega
  clear hs hz hv h1 h3 h4 h5 hc hpb hl hB hbB
  generalize oaB l place = z at *
  subst hp
  have HX := Lib.hid (And.intro hbX hcz)
  clear hbX hcz
  generalize (plL l).length = N at *
  go_enter Tryd.func21, Tryd.ntmps21
  go_wp2_with (first
    | (go_at_call 14; refine (HR.out).mono ?_; rintro e w1 ⟨yL, cL, rfl, hO, hw⟩; have hb := (keep4 hw).1
       have d0 := cell_of_row w1 _ 0 _ _ _ hb
       have d1 := cell_of_row w1 _ 1 _ _ _ hb
       have d2 := cell_of_row w1 _ 2 _ _ _ hb
       have d3 := cell_of_row w1 _ 3 _ _ _ hb
       have fd0 := frozen_of_row w1 _ 0 _ _ hb
       have fd1 := frozen_of_row w1 _ 1 _ _ hb
       have fd2 := frozen_of_row w1 _ 2 _ _ hb
       have fd3 := frozen_of_row w1 _ 3 _ _ hb
       have cz := (hw.cell (p := ⟨b, o + p, none⟩) HX.out.1).trans HX.out.2
       have HH := Lib.hid (And.intro (keep4 hw) hO); clear hw hb hO)
    | (go_at_call 44; refine (HI.out _ _ _ _ HH.out.2).mono ?_; rintro e w2 ⟨rfl, rfl⟩)
    | fail)
  (try simp only [Exit.inBlock, Exit.then])
  refine bodyPost_ret (results_row_tmp rfl _ _ w.heap.size 40 _ (0, 0) _ rfl (Blk.set4w HH.out.1.1 _ _ _ _) undWd rfl (by kernel_rfl)) rfl ?_
  exact ⟨rfl, below_set4w HH.out.1.2 (Nat.le_refl _) _ _ _ _⟩
end Go.Proofs.YtcdmaapjcckbmaaDoor

/- code: the reference: Push, any. -/
namespace Go.Proofs.YtcdmaapjcckbmaaDoor
open Go.RowKit Go.Shelf
section
attribute [local irreducible] lb byC
set_option maxRecDepth 100000 in
set_option maxHeartbeats 2000000 in
theorem rread_empty (x : Option Addr) (c : Nat) (w : World) :
    Calls Tryd.prog 45 #[.slice x 0 c] w fun e w' => e = .returned (.tuple #[W 0, .int .i64 0]) ∧ Below w.heap.size w w' := by
  have hi : (Tryd.prog.info? 97).map (·.size) = some (byC 0 32).size := by rw [byC_size]; kernel_rfl
  have HI := Lib.hid hi
  have hu : Tryd.prog.underlying 97 = some (.array 32 5) := by kernel_rfl
  have HU := Lib.hid hu
  have h32 : byC 0 0 = byC 0 32 := (rdC_zero (fun _ => 0) 0).symm.trans (rdC_all (fun _ => 0) 0 (by omega) (fun k hk => by omega))
  have H32 := Lib.hid h32
  clear hi hu h32
  go_enter Tryd.func45, Tryd.ntmps45
  go_wp2_with fail
  go_loopw [5] (fun i wr => i = .int .i64 0 ∧ Blk wr (w.heap.size + 1) 97 (byC 0 32) ∧ Blk wr w.heap.size 40 (Wc 0) ∧ Below w.heap.size w wr) (fun _ _ => 0)
  case atStart =>
    refine ⟨rfl, ?_, ?_, balloc (balloc (Below.refl _ _) _) _⟩
    · rw [← H32.out, byC_zero]; exact Blk.newS _ _ _ _
    · have h := (Blk.new w 40 (Wc 0)).alloc (.cells (byC 0 0) 97)
      rw [byC_zero] at h
      simp only [Wc, lb_zero] at h ⊢
      exact h
  case round =>
    obtain ⟨rfl, hs, hr, hB⟩ := hrel
    have HS := Lib.hid hs
    have HR := Lib.hid hr
    clear hs hr
    go_upto_region 8 with (fail)
    refine wp_region_lit (wpList_load_mid rfl 97 (.tmp 4) rfl (w.heap.size + 1) 0 rfl (byC 0 32).toList _ HS.out.rangeAt HU.out rfl HI.out ?_)
    go_wp2_with (go_at_call 68; refine (rfrom_any 0 _).mono ?_; rintro e wk ⟨rfl, hk⟩; have hr2 := HR.out.keep hk; have hB2 := bstep hB hk; have r0 := (cell_of_row wk _ 0 _ _ _ hr2).trans (wc_get 0 0 (by omega)); have r1 := (cell_of_row wk _ 1 _ _ _ hr2).trans (wc_get 0 1 (by omega)); have r2 := (cell_of_row wk _ 2 _ _ _ hr2).trans (wc_get 0 2 (by omega)); have r3 := (cell_of_row wk _ 3 _ _ _ hr2).trans (wc_get 0 3 (by omega)); have f0 := frozen_of_row wk _ 0 _ _ hr2; have f1 := frozen_of_row wk _ 1 _ _ hr2; have f2 := frozen_of_row wk _ 2 _ _ hr2; have f3 := frozen_of_row wk _ 3 _ _ hr2; clear hr2)
    exact bodyPost_ret (v := .tuple #[W 0, .int .i64 0]) (by simp [results, Tryd.results45, go_sem, r0, r1, r2, r3]) rfl ⟨rfl, (((hB2.setCell (p := ⟨w.heap.size, 0, none⟩) (by simp) _).setCell (p := ⟨w.heap.size, 1, none⟩) (by simp) _).setCell (p := ⟨w.heap.size, 2, none⟩) (by simp) _).setCell (p := ⟨w.heap.size, 3, none⟩) (by simp) _⟩
theorem rread_fitso (B : Nat) (v : Value) (l : List Nat) (w : World) (hv : Bto B w v l) (hl : l.length ≤ 32) :
    Calls Tryd.prog 45 #[v] w fun e w' => e = .returned (.tuple #[W (nuL l), .int .i64 0]) ∧ Below w.heap.size w w' := by
  obtain ⟨h1, x, c, rfl, _, h3, h5⟩ := hv
  by_cases h0 : l = []
  · subst h0
    exact rread_empty x c w
  · obtain ⟨b, o, rfl, _, hb, hc⟩ := h5 h0
    refine rread_any b o l.length c (fun k => l.getD k 0) w hl hb (fun k hk => ?_)
    have hk2 : l[k]? = some (l.getD k 0) := by rw [List.getD_eq_getElem?_getD]; simp [hk]
    exact ⟨h1 _ (List.mem_of_getElem? hk2), hc k _ hk2⟩

end
set_option maxRecDepth 100000 in
set_option maxHeartbeats 4000000 in
theorem rpush_is (B : Nat) (v : Value) (l : List Nat) (hl : l.length ≤ 1000) (place : Int) (w : World) (hB : B ≤ w.heap.size) (hv : Bto B w v l) (hs : oaS l place = true) (hz1 : 95 ≤ oaB l place) (hz2 : oaB l place ≤ 127) : Calls Tryd.prog 21 #[v, .int .i64 place] w fun e w' => e = .returned (.tuple #[W (nuL (bhL l place.toNat)), .bool true]) ∧ Below w.heap.size w w' := by
  have hv2 := hv.new (balloc (Below.refl w.heap.size w) (.cells #[.int .u64 0, .int .u64 0, .int .u64 0, .int .u64 0] 40))
  have HV := Lib.hid hv2
  have HR := Lib.hid (rops_any B v l hl _ (by rw [World.size_alloc]; omega) hv2)
  have HI := Lib.hid (fun base y c (X : World) h => rinP_any base y c l place hl X h)
  rw [hs] at HI
  obtain ⟨p, hp, hpl, hpb⟩ := oaS_place hs
  obtain ⟨h1, x0, c0, rfl, h3, h4, h5⟩ := hv2
  obtain ⟨b, o, rfl, hbB, hbX, hc⟩ := h5 (by intro e; rw [e] at hpl; simp at hpl)
  have hcz := hc p (oaB l place) (by rw [List.getElem?_eq_getElem hpl, hpb, List.getD_eq_getElem?_getD, List.getElem?_eq_getElem hpl]; rfl)
  have hpI : (p : Int) < (l.length : Int) := by omega
  have hp0 : (0 : Int) ≤ (p : Int) := by omega
  have hzI : ¬ (oaB l place : Int) < 95 := by omega
  have hzJ : ¬ (127 : Int) < (oaB l place : Int) := by omega
  have hbb := bhL_byte hv.1 p
  have hbl := bhL_len l p
  have hsz := szO_le (l.getD p 0)
  rw [hp, Int.toNat_natCast]
  have HB := Lib.hid (And.intro hbb (And.intro hbl hsz))
  have HP := Lib.hid (And.intro hl hpl)
  have HX := Lib.hid (And.intro hbX hcz)
  clear hbb hbl hsz hpb hs hz1 hz2 hv h1 h3 h4 h5 hc hl hB hbB hpl hbX hcz
  generalize oaB l place = z at *
  subst hp
  generalize (plL l).length = N at *
  go_enter Tryd.func21, Tryd.ntmps21
  go_upto_region 4 with (first
    | (go_at_call 14; refine (HR.out).mono ?_; rintro e w1 ⟨yL, cL, rfl, hO, hw⟩; have cz := (hw.cell (p := ⟨b, o + p, none⟩) HX.out.1).trans HX.out.2; have H1 := Lib.hid hw; have HO := Lib.hid hO; clear hw hO)
    | (go_at_call 44; refine (HI.out _ _ _ _ HO.out).mono ?_; rintro e w2 ⟨rfl, rfl⟩)
    | (go_at_call 46; refine (rbehind_any B _ l p HP.out.1 HP.out.2 _ (HV.out.new H1.out)).mono ?_; rintro e w2 ⟨g, rfl, hg, hb, hw⟩; have H2 := Lib.hid (And.intro hb hw); clear hb hw)
    | (go_at_call 45; refine (rread_fitso _ _ (bhL l p) _ (Bto.of_blk H2.out.1 HB.out.1 (by have := HB.out; omega)) (by have := HB.out; omega)).mono ?_; rintro e w3 ⟨rfl, hw⟩; have H3 := Lib.hid hw; clear hw)
    | fail)
  obtain ⟨w4, he⟩ : ∃ w4, w3.alloc (.cells (Wc (nuL (bhL l p))) 40) = w4 := ⟨_, rfl⟩
  rw [show w3.alloc (.cells #[.int .u64 (lb (nuL (bhL l p)) 0), .int .u64 (lb (nuL (bhL l p)) 1), .int .u64 (lb (nuL (bhL l p)) 2), .int .u64 (lb (nuL (bhL l p)) 3)] 40) = w4 from he]
  have hb : Blk w4 w.heap.size 40 #[.int .u64 0, .int .u64 0, .int .u64 0, .int .u64 0] := by rw [← he]; exact (Blk.keep (Blk.keep (keep4 H1.out).1 H2.out.2) H3.out).alloc _
  have hd : Blk w4 w3.heap.size 40 #[.int .u64 (lb (nuL (bhL l p)) 0), .int .u64 (lb (nuL (bhL l p)) 1), .int .u64 (lb (nuL (bhL l p)) 2), .int .u64 (lb (nuL (bhL l p)) 3)] := by rw [← he]; exact Blk.new w3 _ _
  have hW : Below w.heap.size w w4 := by rw [← he]; exact balloc (bstep (bstep (keep4 H1.out).2 H2.out.2) H3.out) _
  have HH := Lib.hid (And.intro hb hW)
  have c0 := cell_of_row w4 _ 0 _ _ _ hb
  have c1 := cell_of_row w4 _ 1 _ _ _ hb
  have c2 := cell_of_row w4 _ 2 _ _ _ hb
  have c3 := cell_of_row w4 _ 3 _ _ _ hb
  have fc0 := frozen_of_row w4 _ 0 _ _ hb
  have fc1 := frozen_of_row w4 _ 1 _ _ hb
  have fc2 := frozen_of_row w4 _ 2 _ _ hb
  have fc3 := frozen_of_row w4 _ 3 _ _ hb
  have d0 := cell_of_row w4 _ 0 _ _ _ hd
  have d1 := cell_of_row w4 _ 1 _ _ _ hd
  have d2 := cell_of_row w4 _ 2 _ _ _ hd
  have d3 := cell_of_row w4 _ 3 _ _ _ hd
  clear hb hd hW he HO HB HV HP H1 H2 H3 HR HI HX
  go_wp2_with fail
  (try simp only [Exit.inBlock, Exit.then])
  refine bodyPost_ret (results_row_tmp rfl _ _ w.heap.size 40 _ (0, 0) _ rfl (Blk.set4w HH.out.1 _ _ _ _) undWd rfl (by kernel_rfl)) rfl ?_
  exact ⟨rfl, below_set4w HH.out.2 (Nat.le_refl _) _ _ _ _⟩
theorem rpush_any (B : Nat) (v : Value) (l : List Nat) (hl : l.length ≤ 1000) (place : Int) (w : World) (hB : B ≤ w.heap.size) (hv : Bto B w v l) : Calls Tryd.prog 21 #[v, .int .i64 place] w fun e w' => e = .returned (.tuple #[W (pwN l place), .bool (pwS l place)]) ∧ Below w.heap.size w w' := by
  unfold pwN
  cases hs : oaS l place with
  | false =>
    have e : pwS l place = false := by unfold pwS; rw [hs]; rfl
    rw [e, if_neg (by simp), W0_lit]
    exact rpush_none B v l hl place w hB hv hs
  | true =>
    by_cases h1 : 95 ≤ oaB l place
    · by_cases h2 : oaB l place ≤ 127
      · have e : pwS l place = true := by unfold pwS; rw [hs]; simp [h1, h2]
        rw [e, if_pos rfl]
        exact rpush_is B v l hl place w hB hv hs h1 h2
      · have e : pwS l place = false := by unfold pwS; simp [h2]
        rw [e, if_neg (by simp), W0_lit]
        exact rpush_high B v l hl place w hB hv hs (by omega)
    · have e : pwS l place = false := by unfold pwS; simp [h1]
      rw [e, if_neg (by simp), W0_lit]
      exact rpush_low B v l hl place w hB hv hs (by omega)
end Go.Proofs.YtcdmaapjcckbmaaDoor

/- code's laws: CodeMarks. -/
namespace Go.Proofs.YtcdmaapjcckbmaaDoor
open Go.RowKit Go.Shelf

theorem eqW_self (p : Nat) (w : World) : (binOp .eql 40 (.agg #[.int .u64 (lb p 0), .int .u64 (lb p 1), .int .u64 (lb p 2), .int .u64 (lb p 3)]) (.agg #[.int .u64 (lb p 0), .int .u64 (lb p 1), .int .u64 (lb p 2), .int .u64 (lb p 3)])).run Tryd.prog w = .ok (.bool true) w := (eqW p p w).trans (by simp)
theorem lb_one (x i : Nat) (hx : x < B64) (hi : 1 ≤ i) : lb x i = 0 := by
  unfold lb
  rw [Nat.div_eq_of_lt (Nat.lt_of_lt_of_le hx (by rw [show B64 = B64 ^ 1 from (Nat.pow_one _).symm]; exact Nat.pow_le_pow_right (by decide) hi))]
  rfl
theorem mkB_true {l : List Nat} {x : Nat} (h : x ∈ mkL l) (hx : x < B64) : mkB l x = true := by
  have hb : smB x = true := smB_true (lb_one x 1 hx (by omega)) (lb_one x 2 hx (by omega)) (lb_one x 3 hx (by omega))
  have hv : smV x = (x : Nat) := by
    unfold smV lb
    rw [if_pos hb, Nat.pow_zero, Nat.div_one, Nat.mod_eq_of_lt hx]
  unfold mkB
  rw [hb, hv, ← mem_mkL, decide_eq_true h]
  rfl
theorem mkL_lt {l : List Nat} {x : Nat} (h : x ∈ mkL l) : x < l.length := by
  unfold mkL mkK at h
  obtain ⟨k, hk, rfl⟩ := List.mem_map.1 h
  exact (opsN_spec l).2.2 k (List.mem_range.1 (List.mem_filter.1 hk).1)
set_option maxRecDepth 100000 in
set_option maxHeartbeats 2000000 in
theorem marks_long (x0 : Option Addr) (n c0 : Nat) (hs : 300 < n) (a : Nat) (k : Int) (w : World) : Calls Tryd.prog 5 #[.slice x0 n c0, W a, .int .i64 k] w fun e w' => e = .returned (.bool true) ∧ Below w.heap.size w w' := by
  have hi : (300 : Int) < (n : Int) := by omega
  have HW := Lib.hid (fun w => works_any10 w)
  have hW := balloc (Below.refl w.heap.size w) (.cells (Wc a) 40)
  have HH := Lib.hid hW
  clear hs hW
  go_enter Tryd.func5, Tryd.ntmps5
  go_wp2_with (first
    | (go_at_call 9; refine (HW.out _).mono ?_; rintro e w1 ⟨rfl, h1⟩)
    | fail)
  go_ret
  exact ⟨rfl, bstep HH.out h1⟩
set_option maxRecDepth 100000 in
set_option maxHeartbeats 4000000 in
theorem marks_walk (B : Nat) (v : Value) (l : List Nat) (hl : l.length ≤ 300) (a : Nat) (place : Int) (w : World) (hB : B ≤ w.heap.size) (hv : Bto B w v l) : Calls Tryd.prog 5 #[v, W a, .int .i64 place] w fun e w' => e = .returned (.bool true) ∧ Below w.heap.size w w' := by
  obtain ⟨x0, c0, rfl⟩ : ∃ x0 c0, v = .slice x0 l.length c0 := by obtain ⟨_, x, c, h, _⟩ := hv; exact ⟨x, c, h⟩
  have hi : ¬ (300 : Int) < (l.length : Int) := by omega
  have hl2 : l.length ≤ 1000 := by omega
  have hW0 := balloc (Below.refl w.heap.size w) (.cells (Wc a) 40)
  have hbx := Blk.new w 40 (Wc a)
  have hv0 := hv.new hW0
  have HM := Lib.hid (fun (X : World) h1 h2 => marks_any B (.slice x0 l.length c0) l hl2 X h1 h2)
  have HR := Lib.hid (fun (X : World) h1 h2 => rmarks_any B (.slice x0 l.length c0) l hl2 X h1 h2)
  have H0 := Lib.hid (And.intro hv0 (And.intro hbx (And.intro hW0 (And.intro hB hl))))
  clear hv hW0 hbx hv0 hB hl hl2
  generalize hn : l.length = n at *
  have HN := Lib.hid hn
  clear hn
  go_enter Tryd.func5, Tryd.ntmps5
  go_upto_region 7 with (first
    | (go_at_call 16; refine (HM.out _ (Nat.le_trans H0.out.2.2.2.1 H0.out.2.2.1.size) H0.out.1).mono ?_; rintro e w1 ⟨y1, c1, rfl, hO1, h1⟩; have H1 := Lib.hid (And.intro hO1 h1); clear hO1 h1)
    | (go_at_call 17; refine (HR.out _ (Nat.le_trans H0.out.2.2.2.1 (Nat.le_trans H0.out.2.2.1.size H1.out.2.size)) (H0.out.1.new H1.out.2)).mono ?_; rintro e w2 ⟨y2, c2, rfl, hO2, h2⟩; have H2 := Lib.hid (And.intro hO2 h2); clear hO2 h2)
    | fail)
  have HC := Lib.hid (And.intro (bstep (bstep H0.out.2.2.1 H1.out.2) H2.out.2) (And.intro ((H0.out.2.1.keep H1.out.2).keep H2.out.2) (And.intro ((H0.out.1.new H1.out.2).new H2.out.2) (And.intro (World.ownsRow.kept H1.out.1 (grown_new H2.out.2) (by cases (Value.slice y1 (mkL l).length c1).ownBlock <;> simp)) H2.out.1))))
  have HL := Lib.hid (And.intro H0.out.2.2.2.1 H0.out.2.2.2.2)
  have hmlen : (mkL l).length ≤ 300 := by
    have h1 := mkK_len l (opsN l)
    have h2 := (opsN_spec l).2.1
    have h3 := HN.out
    have h4 := HL.out.2
    show (mkK l (opsN l)).length ≤ 300
    omega
  clear H0 H1 H2 HM HR
  generalize hM : (mkL l).length = M at *
  have HM := Lib.hid hM
  clear hM
  go_loopw [9] (fun t9 wr => ∃ k : Nat, k ≤ M ∧ t9 = .int .i64 (k : Nat) ∧ Below w2.heap.size w2 wr) (fun t9 _ => ((M : Int) - intOf t9).toNat)
  case atStart => exact ⟨0, Nat.zero_le _, rfl, Below.refl _ _⟩
  case round =>
    obtain ⟨k, hk, rfl, hW⟩ := hrel
    by_cases hlt : k < M
    · have hkI : (k : Int) < (M : Int) := by omega
      have hk0 : (0 : Int) ≤ (k : Int) := by omega
      have gk : IntKind.i64.wrap ((k : Int) + 1) = ((k + 1 : Nat) : Int) := by rw [IntWalk.i64_in _ (by omega)]; omega
      obtain ⟨x, hx⟩ : ∃ x, (mkL l)[k]? = some x := ⟨_, List.getElem?_eq_getElem (by have := HM.out; omega)⟩
      have hO1 := HC.out.2.2.2.1
      have hO2 := HC.out.2.2.2.2
      rw [← HM.out] at hO1 hO2
      obtain ⟨g1, rfl, _, hg1, hc1⟩ := owI_at hO1 hx
      obtain ⟨g2, rfl, _, hg2, hc2⟩ := owI_at hO2 hx
      have HX := Lib.hid (And.intro hx (And.intro (And.intro hg1 hc1) (And.intro (And.intro hg2 hc2) (And.intro hW hlt))))
      clear hx hO1 hO2 hg1 hc1 hg2 hc2 hW hlt hk
      have hxm := List.mem_of_getElem? HX.out.1
      have hxl := mkL_lt hxm
      have hmk := mkB_true hxm (show x < B64 by have := HL.out.2; have := HN.out; unfold B64; omega)
      have HK := Lib.hid (fun (X : World) h1 h2 => (mark_any B (.slice x0 l.length c0) l (by have := HL.out.2; have := HN.out; omega) x X h1 h2))
      rw [hmk, HN.out] at HK
      have hxB : x < B64 := by have := HL.out.2; have := HN.out; unfold B64; omega
      have gx : IntKind.u64.wrap (x : Int) = (x : Int) := IntWalk.u64_in _ (by have := HL.out.2; have := HN.out; omega)
      have hq : ((x : Int) != (x : Int)) = false := by simp
      have hc1 : ∀ Z, Below wr.heap.size wr Z → Z.cell? ⟨g1, k, none⟩ = some (.int .i64 (x : Nat)) := fun Z hZ => (cell_heap (p := ⟨g1, k, none⟩) ((hZ.block g1 (Nat.lt_of_lt_of_le HX.out.2.1.1 HX.out.2.2.2.1.size)).trans (HX.out.2.2.2.1.block g1 HX.out.2.1.1))).trans HX.out.2.1.2
      have hc2 : ∀ Z, Below wr.heap.size wr Z → Z.cell? ⟨g2, k, none⟩ = some (.int .i64 (x : Nat)) := fun Z hZ => (cell_heap (p := ⟨g2, k, none⟩) ((hZ.block g2 (Nat.lt_of_lt_of_le HX.out.2.2.1.1 HX.out.2.2.2.1.size)).trans (HX.out.2.2.2.1.block g2 HX.out.2.2.1.1))).trans HX.out.2.2.1.2
      have HV9 := Lib.hid (fun (Z : World) (hZ : Below wr.heap.size wr Z) => (And.intro ((HC.out.2.2.1.new HX.out.2.2.2.1).new hZ) (Nat.le_trans HL.out.1 (Nat.le_trans HC.out.1.size (Nat.le_trans HX.out.2.2.2.1.size hZ.size)))))
      have hB0 : Below wr.heap.size wr wr.drew := below_drew' (Below.refl _ _)
      clear hxm hxl hmk
      go_upto_region 9 with fail
      refine wp_region_held_drew (S := fun Z => Below wr.heap.size wr Z) (by as_aux_lemma => kernel_rfl) hB0 (fun hHeld => ?_)
      simp only [List.size_toArray, List.length_cons, List.length_nil, Nat.reduceAdd, Array.replicate_succ, Array.replicate_zero, List.push_toArray, List.nil_append, List.cons_append]
      refine wpAnyH_take (i := 0) (oi := { dst := some 33, op := Op.move (Operand.tmp 7), type := 33, pos := "law.go:79", after := #[], guard := none }) (v := ?vq0) rfl (by as_aux_lemma => kernel_rfl) (by as_aux_lemma => kernel_rfl) (by as_aux_lemma => kernel_rfl) (fun _ _ _ h => h) (Or.inl ⟨by rfl, ?yq0⟩) (by assumption) ?rq0
      case yq0 => (intro w hSw; (try dsimp only at hSw); have m1 := hc1 w hSw; have m2 := hc2 w hSw; go_simp <;> with_reducible rfl)
      simp only [Act.put, List.setIfInBounds_toArray, List.set_cons_zero, List.set_cons_succ]
      refine wpAnyH_take (i := 1) (oi := { dst := some 34, op := Op.move (Operand.tmp 9), type := 3, pos := "law.go:79", after := #[], guard := none }) (v := ?vq1) rfl (by as_aux_lemma => kernel_rfl) (by as_aux_lemma => kernel_rfl) (by as_aux_lemma => kernel_rfl) (fun _ _ _ h => h) (Or.inl ⟨by rfl, ?yq1⟩) (by assumption) ?rq1
      case yq1 => (intro w hSw; (try dsimp only at hSw); have m1 := hc1 w hSw; have m2 := hc2 w hSw; go_simp <;> with_reducible rfl)
      simp only [Act.put, List.setIfInBounds_toArray, List.set_cons_zero, List.set_cons_succ]
      refine wpAnyH_take (i := 2) (oi := { dst := some 35, op := Op.indexAddr 33 (Operand.tmp 33) (Operand.tmp 34), type := 0, pos := "law.go:79", after := #[{ on := 0, ground := Ground.data }, { on := 1, ground := Ground.data }], guard := none }) (v := ?vq2) rfl (by as_aux_lemma => kernel_rfl) (by as_aux_lemma => kernel_rfl) (by as_aux_lemma => kernel_rfl) (fun _ _ _ h => h) (Or.inl ⟨by rfl, ?yq2⟩) (by assumption) ?rq2
      case yq2 => (intro w hSw; (try dsimp only at hSw); have m1 := hc1 w hSw; have m2 := hc2 w hSw; go_simp <;> with_reducible rfl)
      simp only [Act.put, List.setIfInBounds_toArray, List.set_cons_zero, List.set_cons_succ]
      refine wpAnyH_take (i := 3) (oi := { dst := some 36, op := Op.load 3 (Operand.tmp 35), type := 3, pos := "law.go:79", after := #[{ on := 2, ground := Ground.data }], guard := none }) (v := ?vq3) rfl (by as_aux_lemma => kernel_rfl) (by as_aux_lemma => kernel_rfl) (by as_aux_lemma => kernel_rfl) (fun _ _ _ h => h) (Or.inl ⟨by rfl, ?yq3⟩) (by assumption) ?rq3
      case yq3 => (intro w hSw; (try dsimp only at hSw); have m1 := hc1 w hSw; have m2 := hc2 w hSw; go_simp <;> with_reducible rfl)
      simp only [Act.put, List.setIfInBounds_toArray, List.set_cons_zero, List.set_cons_succ]
      refine wpAnyH_take (i := 4) (oi := { dst := some 37, op := Op.move (Operand.tmp 8), type := 33, pos := "law.go:79", after := #[], guard := none }) (v := ?vq4) rfl (by as_aux_lemma => kernel_rfl) (by as_aux_lemma => kernel_rfl) (by as_aux_lemma => kernel_rfl) (fun _ _ _ h => h) (Or.inl ⟨by rfl, ?yq4⟩) (by assumption) ?rq4
      case yq4 => (intro w hSw; (try dsimp only at hSw); have m1 := hc1 w hSw; have m2 := hc2 w hSw; go_simp <;> with_reducible rfl)
      simp only [Act.put, List.setIfInBounds_toArray, List.set_cons_zero, List.set_cons_succ]
      refine wpAnyH_take (i := 5) (oi := { dst := some 38, op := Op.move (Operand.tmp 9), type := 3, pos := "law.go:79", after := #[], guard := none }) (v := ?vq5) rfl (by as_aux_lemma => kernel_rfl) (by as_aux_lemma => kernel_rfl) (by as_aux_lemma => kernel_rfl) (fun _ _ _ h => h) (Or.inl ⟨by rfl, ?yq5⟩) (by assumption) ?rq5
      case yq5 => (intro w hSw; (try dsimp only at hSw); have m1 := hc1 w hSw; have m2 := hc2 w hSw; go_simp <;> with_reducible rfl)
      simp only [Act.put, List.setIfInBounds_toArray, List.set_cons_zero, List.set_cons_succ]
      refine wpAnyH_take (i := 6) (oi := { dst := some 39, op := Op.indexAddr 33 (Operand.tmp 37) (Operand.tmp 38), type := 0, pos := "law.go:79", after := #[{ on := 4, ground := Ground.data }, { on := 5, ground := Ground.data }], guard := none }) (v := ?vq6) rfl (by as_aux_lemma => kernel_rfl) (by as_aux_lemma => kernel_rfl) (by as_aux_lemma => kernel_rfl) (fun _ _ _ h => h) (Or.inl ⟨by rfl, ?yq6⟩) (by assumption) ?rq6
      case yq6 => (intro w hSw; (try dsimp only at hSw); have m1 := hc1 w hSw; have m2 := hc2 w hSw; go_simp <;> with_reducible rfl)
      simp only [Act.put, List.setIfInBounds_toArray, List.set_cons_zero, List.set_cons_succ]
      refine wpAnyH_take (i := 7) (oi := { dst := some 40, op := Op.load 3 (Operand.tmp 39), type := 3, pos := "law.go:79", after := #[{ on := 6, ground := Ground.data }], guard := none }) (v := ?vq7) rfl (by as_aux_lemma => kernel_rfl) (by as_aux_lemma => kernel_rfl) (by as_aux_lemma => kernel_rfl) (fun _ _ _ h => h) (Or.inl ⟨by rfl, ?yq7⟩) (by assumption) ?rq7
      case yq7 => (intro w hSw; (try dsimp only at hSw); have m1 := hc1 w hSw; have m2 := hc2 w hSw; go_simp <;> with_reducible rfl)
      simp only [Act.put, List.setIfInBounds_toArray, List.set_cons_zero, List.set_cons_succ]
      refine wpAnyH_take (i := 8) (oi := { dst := some 41, op := Op.binOp BinOp.neq 3 (Operand.tmp 36) (Operand.tmp 40) 3, type := 4, pos := "law.go:79", after := #[{ on := 3, ground := Ground.data }, { on := 7, ground := Ground.data }], guard := none }) (v := ?vq8) rfl (by as_aux_lemma => kernel_rfl) (by as_aux_lemma => kernel_rfl) (by as_aux_lemma => kernel_rfl) (fun _ _ _ h => h) (Or.inl ⟨by rfl, ?yq8⟩) (by assumption) ?rq8
      case yq8 => (intro w hSw; (try dsimp only at hSw); have m1 := hc1 w hSw; have m2 := hc2 w hSw; go_simp <;> with_reducible rfl)
      simp only [Act.put, List.setIfInBounds_toArray, List.set_cons_zero, List.set_cons_succ]
      refine wpAnyH_take (i := 9) (oi := { dst := some 42, op := Op.move (Operand.tmp 41), type := 4, pos := "law.go:79", after := #[{ on := 8, ground := Ground.data }], guard := none }) (v := ?vq9) rfl (by as_aux_lemma => kernel_rfl) (by as_aux_lemma => kernel_rfl) (by as_aux_lemma => kernel_rfl) (fun _ _ _ h => h) (Or.inl ⟨by rfl, ?yq9⟩) (by assumption) ?rq9
      case yq9 => (intro w hSw; (try dsimp only at hSw); have m1 := hc1 w hSw; have m2 := hc2 w hSw; go_simp <;> with_reducible rfl)
      simp only [Act.put, List.setIfInBounds_toArray, List.set_cons_zero, List.set_cons_succ]
      refine wpAnyH_take (i := 10) (oi := { dst := some 43, op := Op.move (Operand.tmp 0), type := 32, pos := "law.go:79", after := #[{ on := 9, ground := Ground.guard }], guard := some (9, false) }) (v := ?vq10) rfl (by as_aux_lemma => kernel_rfl) (by as_aux_lemma => kernel_rfl) (by as_aux_lemma => kernel_rfl) (fun _ _ _ h => h) (Or.inl ⟨by rfl, ?yq10⟩) (by assumption) ?rq10
      case yq10 => (intro w hSw; (try dsimp only at hSw); have m1 := hc1 w hSw; have m2 := hc2 w hSw; go_simp <;> with_reducible rfl)
      simp only [Act.put, List.setIfInBounds_toArray, List.set_cons_zero, List.set_cons_succ]
      refine wpAnyH_take (i := 11) (oi := { dst := some 44, op := Op.move (Operand.tmp 7), type := 33, pos := "law.go:79", after := #[{ on := 9, ground := Ground.guard }], guard := some (9, false) }) (v := ?vq11) rfl (by as_aux_lemma => kernel_rfl) (by as_aux_lemma => kernel_rfl) (by as_aux_lemma => kernel_rfl) (fun _ _ _ h => h) (Or.inl ⟨by rfl, ?yq11⟩) (by assumption) ?rq11
      case yq11 => (intro w hSw; (try dsimp only at hSw); have m1 := hc1 w hSw; have m2 := hc2 w hSw; go_simp <;> with_reducible rfl)
      simp only [Act.put, List.setIfInBounds_toArray, List.set_cons_zero, List.set_cons_succ]
      refine wpAnyH_take (i := 12) (oi := { dst := some 45, op := Op.move (Operand.tmp 9), type := 3, pos := "law.go:79", after := #[{ on := 9, ground := Ground.guard }], guard := some (9, false) }) (v := ?vq12) rfl (by as_aux_lemma => kernel_rfl) (by as_aux_lemma => kernel_rfl) (by as_aux_lemma => kernel_rfl) (fun _ _ _ h => h) (Or.inl ⟨by rfl, ?yq12⟩) (by assumption) ?rq12
      case yq12 => (intro w hSw; (try dsimp only at hSw); have m1 := hc1 w hSw; have m2 := hc2 w hSw; go_simp <;> with_reducible rfl)
      simp only [Act.put, List.setIfInBounds_toArray, List.set_cons_zero, List.set_cons_succ]
      refine wpAnyH_take (i := 13) (oi := { dst := some 46, op := Op.indexAddr 33 (Operand.tmp 44) (Operand.tmp 45), type := 0, pos := "law.go:79", after := #[{ on := 11, ground := Ground.data }, { on := 12, ground := Ground.data }, { on := 9, ground := Ground.guard }], guard := some (9, false) }) (v := ?vq13) rfl (by as_aux_lemma => kernel_rfl) (by as_aux_lemma => kernel_rfl) (by as_aux_lemma => kernel_rfl) (fun _ _ _ h => h) (Or.inl ⟨by rfl, ?yq13⟩) (by assumption) ?rq13
      case yq13 => (intro w hSw; (try dsimp only at hSw); have m1 := hc1 w hSw; have m2 := hc2 w hSw; go_simp <;> with_reducible rfl)
      simp only [Act.put, List.setIfInBounds_toArray, List.set_cons_zero, List.set_cons_succ]
      refine wpAnyH_take (i := 14) (oi := { dst := some 47, op := Op.load 3 (Operand.tmp 46), type := 3, pos := "law.go:79", after := #[{ on := 13, ground := Ground.data }, { on := 9, ground := Ground.guard }], guard := some (9, false) }) (v := ?vq14) rfl (by as_aux_lemma => kernel_rfl) (by as_aux_lemma => kernel_rfl) (by as_aux_lemma => kernel_rfl) (fun _ _ _ h => h) (Or.inl ⟨by rfl, ?yq14⟩) (by assumption) ?rq14
      case yq14 => (intro w hSw; (try dsimp only at hSw); have m1 := hc1 w hSw; have m2 := hc2 w hSw; go_simp <;> with_reducible rfl)
      simp only [Act.put, List.setIfInBounds_toArray, List.set_cons_zero, List.set_cons_succ]
      refine wpAnyH_take (i := 15) (oi := { dst := some 48, op := Op.convert 3 23 (Operand.tmp 47), type := 23, pos := "law.go:79", after := #[{ on := 14, ground := Ground.data }, { on := 9, ground := Ground.guard }], guard := some (9, false) }) (v := ?vq15) rfl (by as_aux_lemma => kernel_rfl) (by as_aux_lemma => kernel_rfl) (by as_aux_lemma => kernel_rfl) (fun _ _ _ h => h) (Or.inl ⟨by rfl, ?yq15⟩) (by assumption) ?rq15
      case yq15 => (intro w hSw; (try dsimp only at hSw); have m1 := hc1 w hSw; have m2 := hc2 w hSw; go_simp <;> with_reducible rfl)
      simp only [Act.put, List.setIfInBounds_toArray, List.set_cons_zero, List.set_cons_succ]
      refine wpAnyH_ready (rs := [16]) (by as_aux_lemma => kernel_rfl) (by simp) ?_
      refine AllReadyH.cons (o := { dst := some 49, op := Op.call { callee := Callee.value (Operand.func 19), args := #[Operand.tmp 48], argTypes := #[23] }, type := 40, pos := "law.go:79", after := #[{ on := 15, ground := Ground.data }, { on := 9, ground := Ground.chain }, { on := 9, ground := Ground.guard }], guard := some (9, false) }) rfl (fun K hK => ?_) (by exact AllReadyH.nil)
      rw [if_pos (by rfl)]
      go_simp
      refine (rof_any x hxB _).mono ?_
      rintro e wA ⟨rfl, hA⟩
      have hBA := bstep hB0 hA
      refine hK.out _ _ (by (try dsimp only); (first | exact hBB | exact hBA | exact hB0)) (fun hHeld => ?_)
      clear hK K
      simp only [List.setIfInBounds_toArray, List.set_cons_zero, List.set_cons_succ]
      refine wpAnyH_ready (rs := [17]) (by as_aux_lemma => kernel_rfl) (by simp) ?_
      refine AllReadyH.cons (o := { dst := some 50, op := Op.call { callee := Callee.value (Operand.func 18), args := #[Operand.tmp 43, Operand.tmp 49], argTypes := #[32, 40] }, type := 4, pos := "law.go:79", after := #[{ on := 10, ground := Ground.data }, { on := 16, ground := Ground.data }, { on := 16, ground := Ground.chain }, { on := 9, ground := Ground.guard }], guard := some (9, false) }) rfl (fun K hK => ?_) (by exact AllReadyH.nil)
      rw [if_pos (by rfl)]
      go_simp
      refine (HK.out _ (HV9.out _ hBA).2 (HV9.out _ hBA).1).mono ?_
      rintro e wB ⟨rfl, hB⟩
      have hBB := bstep hBA hB
      refine hK.out _ _ (by (try dsimp only); (first | exact hBB | exact hBA | exact hB0)) (fun hHeld => ?_)
      clear hK K
      simp only [List.setIfInBounds_toArray, List.set_cons_zero, List.set_cons_succ]
      refine wpAnyH_take (i := 18) (oi := { dst := some 51, op := Op.unOp UnOp.not 4 (Operand.tmp 50), type := 4, pos := "law.go:79", after := #[{ on := 17, ground := Ground.data }, { on := 9, ground := Ground.guard }], guard := some (9, false) }) (v := ?vq18) rfl (by as_aux_lemma => kernel_rfl) (by as_aux_lemma => kernel_rfl) (by as_aux_lemma => kernel_rfl) (fun _ _ _ h => h) (Or.inl ⟨by rfl, ?yq18⟩) (by assumption) ?rq18
      case yq18 => (intro w hSw; (try dsimp only at hSw); have m1 := hc1 w hSw; have m2 := hc2 w hSw; go_simp <;> with_reducible rfl)
      simp only [Act.put, List.setIfInBounds_toArray, List.set_cons_zero, List.set_cons_succ]
      refine wpAnyH_take (i := 19) (oi := { dst := some 52, op := Op.pick (Operand.tmp 42) (Operand.const (Value.bool true)) (Operand.tmp 51), type := 4, pos := "law.go:79", after := #[{ on := 9, ground := Ground.data }, { on := 18, ground := Ground.data }], guard := none }) (v := ?vq19) rfl (by as_aux_lemma => kernel_rfl) (by as_aux_lemma => kernel_rfl) (by as_aux_lemma => kernel_rfl) (fun _ _ _ h => h) (Or.inl ⟨by rfl, ?yq19⟩) (by assumption) ?rq19
      case yq19 => (intro w hSw; (try dsimp only at hSw); have m1 := hc1 w hSw; have m2 := hc2 w hSw; go_simp <;> with_reducible rfl)
      simp only [Act.put, List.setIfInBounds_toArray, List.set_cons_zero, List.set_cons_succ]
      refine wpAnyH_done (by as_aux_lemma => kernel_rfl) ?_ _
      have HE := Lib.hid (And.intro (bstep HX.out.2.2.2.1 hBB) HX.out.2.2.2.2)
      go_wp2_with fail
      exact ⟨⟨k + 1, (by have := HE.out.2; omega), (by go_num), HE.out.1⟩, (by have := HE.out.2; simp [intOf]; omega)⟩
    · obtain rfl : k = M := by omega
      have hkI : ¬ (k : Int) < (k : Int) := by omega
      have hl2 : l.length ≤ 1000 := by have := HL.out.2; have := HN.out; omega
      have HP := Lib.hid (fun (X : World) h1 h2 => push_any B (.slice x0 l.length c0) l hl2 place X h1 h2)
      have HQ := Lib.hid (fun (X : World) h1 h2 => rpush_any B (.slice x0 l.length c0) l hl2 place X h1 h2)
      have HA := Lib.hid (fun (X : World) h1 h2 => mark_any B (.slice x0 l.length c0) l hl2 a X h1 h2)
      have HR := Lib.hid (fun (X : World) h1 h2 => rmark_any B (.slice x0 l.length c0) l hl2 a X h1 h2)
      rw [HN.out] at HP HQ HA HR
      have HWk := Lib.hid (fun w => works_any10 w)
      have H3 := Lib.hid (And.intro (HC.out.2.1.keep hW) (And.intro (bstep HC.out.1 hW) (HC.out.2.2.1.new hW)))
      clear hW hlt hk hl2 hmlen
      generalize pwN l place = p at *
      generalize pwS l place = ps at *
      generalize mkB l a = mb at *
      have hle : ∀ X, Below w.heap.size w X → B ≤ X.heap.size := fun X h => Nat.le_trans HL.out.1 h.size
      have HLE := Lib.hid hle
      clear hle
      go_upto_region 12 with (first
        | (go_at_call 20; refine (HP.out _ (HLE.out _ H3.out.2.1) H3.out.2.2).mono ?_; rintro e w4 ⟨rfl, h4⟩)
        | fail)
      have H4 := Lib.hid (And.intro ((H3.out.1.keep h4).alloc (.cells (Wc p) 40)) (And.intro (Blk.new w4 40 (Wc p)) (And.intro (balloc (bstep H3.out.2.1 h4) (.cells (Wc p) 40)) ((H3.out.2.2.new h4).new (balloc (Below.refl w4.heap.size w4) (.cells (Wc p) 40))))))
      clear h4
      obtain ⟨V4, hV4⟩ : ∃ V4, w4.alloc (.cells (Wc p) 40) = V4 := ⟨_, rfl⟩
      rw [hV4] at H4
      rw [show w4.alloc (.cells #[.int .u64 (lb p 0), .int .u64 (lb p 1), .int .u64 (lb p 2), .int .u64 (lb p 3)] 40) = V4 from hV4]
      clear hV4
      go_upto_region 13 with (first
        | (go_at_call 21; refine (HQ.out _ (HLE.out _ H4.out.2.2.1) H4.out.2.2.2).mono ?_; rintro e w5 ⟨rfl, h5⟩)
        | fail)
      have H5 := Lib.hid (And.intro ((H4.out.1.keep h5).alloc (.cells (Wc p) 40)) (And.intro ((H4.out.2.1.keep h5).alloc (.cells (Wc p) 40)) (And.intro (Blk.new w5 40 (Wc p)) (And.intro (balloc (bstep H4.out.2.2.1 h5) (.cells (Wc p) 40)) ((H4.out.2.2.2.new h5).new (balloc (Below.refl w5.heap.size w5) (.cells (Wc p) 40)))))))
      clear h5
      obtain ⟨V5, hV5⟩ : ∃ V5, w5.alloc (.cells (Wc p) 40) = V5 := ⟨_, rfl⟩
      rw [hV5] at H5
      rw [show w5.alloc (.cells #[.int .u64 (lb p 0), .int .u64 (lb p 1), .int .u64 (lb p 2), .int .u64 (lb p 3)] 40) = V5 from hV5]
      clear hV5
      have hua0 : ∀ Z, Below V5.heap.size V5 Z → Z.cell? ⟨w.heap.size, 0, none⟩ = some (.int .u64 (lb a 0)) := fun Z hZ => cell_of_row _ _ 0 _ _ _ (H5.out.1.keep hZ)
      have hua1 : ∀ Z, Below V5.heap.size V5 Z → Z.cell? ⟨w.heap.size, 1, none⟩ = some (.int .u64 (lb a 1)) := fun Z hZ => cell_of_row _ _ 1 _ _ _ (H5.out.1.keep hZ)
      have hua2 : ∀ Z, Below V5.heap.size V5 Z → Z.cell? ⟨w.heap.size, 2, none⟩ = some (.int .u64 (lb a 2)) := fun Z hZ => cell_of_row _ _ 2 _ _ _ (H5.out.1.keep hZ)
      have hua3 : ∀ Z, Below V5.heap.size V5 Z → Z.cell? ⟨w.heap.size, 3, none⟩ = some (.int .u64 (lb a 3)) := fun Z hZ => cell_of_row _ _ 3 _ _ _ (H5.out.1.keep hZ)
      have hub0 : ∀ Z, Below V5.heap.size V5 Z → Z.cell? ⟨w4.heap.size, 0, none⟩ = some (.int .u64 (lb p 0)) := fun Z hZ => cell_of_row _ _ 0 _ _ _ (H5.out.2.1.keep hZ)
      have hub1 : ∀ Z, Below V5.heap.size V5 Z → Z.cell? ⟨w4.heap.size, 1, none⟩ = some (.int .u64 (lb p 1)) := fun Z hZ => cell_of_row _ _ 1 _ _ _ (H5.out.2.1.keep hZ)
      have hub2 : ∀ Z, Below V5.heap.size V5 Z → Z.cell? ⟨w4.heap.size, 2, none⟩ = some (.int .u64 (lb p 2)) := fun Z hZ => cell_of_row _ _ 2 _ _ _ (H5.out.2.1.keep hZ)
      have hub3 : ∀ Z, Below V5.heap.size V5 Z → Z.cell? ⟨w4.heap.size, 3, none⟩ = some (.int .u64 (lb p 3)) := fun Z hZ => cell_of_row _ _ 3 _ _ _ (H5.out.2.1.keep hZ)
      have huc0 : ∀ Z, Below V5.heap.size V5 Z → Z.cell? ⟨w5.heap.size, 0, none⟩ = some (.int .u64 (lb p 0)) := fun Z hZ => cell_of_row _ _ 0 _ _ _ (H5.out.2.2.1.keep hZ)
      have huc1 : ∀ Z, Below V5.heap.size V5 Z → Z.cell? ⟨w5.heap.size, 1, none⟩ = some (.int .u64 (lb p 1)) := fun Z hZ => cell_of_row _ _ 1 _ _ _ (H5.out.2.2.1.keep hZ)
      have huc2 : ∀ Z, Below V5.heap.size V5 Z → Z.cell? ⟨w5.heap.size, 2, none⟩ = some (.int .u64 (lb p 2)) := fun Z hZ => cell_of_row _ _ 2 _ _ _ (H5.out.2.2.1.keep hZ)
      have huc3 : ∀ Z, Below V5.heap.size V5 Z → Z.cell? ⟨w5.heap.size, 3, none⟩ = some (.int .u64 (lb p 3)) := fun Z hZ => cell_of_row _ _ 3 _ _ _ (H5.out.2.2.1.keep hZ)
      have hB0 : Below V5.heap.size V5 V5.drew := below_drew' (Below.refl _ _)
      have hew := fun w => eqW_self p w
      refine wp_region_held_drew (S := fun Z => Below V5.heap.size V5 Z) (by as_aux_lemma => kernel_rfl) hB0 (fun hHeld => ?_)
      simp only [List.size_toArray, List.length_cons, List.length_nil, Nat.reduceAdd, Array.replicate_succ, Array.replicate_zero, List.push_toArray, List.nil_append, List.cons_append]
      refine wpAnyH_take (i := 0) (oi := { dst := some 65, op := Op.move (Operand.tmp 0), type := 32, pos := "law.go:85", after := #[], guard := none }) (v := ?vq0z) rfl (by as_aux_lemma => kernel_rfl) (by as_aux_lemma => kernel_rfl) (by as_aux_lemma => kernel_rfl) (fun _ _ _ h => h) (Or.inl ⟨by rfl, ?yq0z⟩) (by assumption) ?rq0z
      case yq0z => (intro w hSw; (try dsimp only at hSw); have ua0 := hua0 w hSw; have ua1 := hua1 w hSw; have ua2 := hua2 w hSw; have ua3 := hua3 w hSw; have ub0 := hub0 w hSw; have ub1 := hub1 w hSw; have ub2 := hub2 w hSw; have ub3 := hub3 w hSw; have uc0 := huc0 w hSw; have uc1 := huc1 w hSw; have uc2 := huc2 w hSw; have uc3 := huc3 w hSw; go_simp <;> with_reducible rfl)
      simp only [Act.put, List.setIfInBounds_toArray, List.set_cons_zero, List.set_cons_succ]
      refine wpAnyH_take (i := 1) (oi := { dst := some 66, op := Op.load 40 (Operand.tmp 4), type := 40, pos := "law.go:85", after := #[], guard := none }) (v := ?vq1z) rfl (by as_aux_lemma => kernel_rfl) (by as_aux_lemma => kernel_rfl) (by as_aux_lemma => kernel_rfl) (fun _ _ _ h => h) (Or.inl ⟨by rfl, ?yq1z⟩) (by assumption) ?rq1z
      case yq1z => (intro w hSw; (try dsimp only at hSw); have ua0 := hua0 w hSw; have ua1 := hua1 w hSw; have ua2 := hua2 w hSw; have ua3 := hua3 w hSw; have ub0 := hub0 w hSw; have ub1 := hub1 w hSw; have ub2 := hub2 w hSw; have ub3 := hub3 w hSw; have uc0 := huc0 w hSw; have uc1 := huc1 w hSw; have uc2 := huc2 w hSw; have uc3 := huc3 w hSw; go_simp <;> with_reducible rfl)
      simp only [Act.put, List.setIfInBounds_toArray, List.set_cons_zero, List.set_cons_succ]
      refine wpAnyH_take (i := 3) (oi := { dst := some 68, op := Op.move (Operand.tmp 0), type := 32, pos := "law.go:85", after := #[], guard := none }) (v := ?vq2z) rfl (by as_aux_lemma => kernel_rfl) (by as_aux_lemma => kernel_rfl) (by as_aux_lemma => kernel_rfl) (fun _ _ _ h => h) (Or.inl ⟨by rfl, ?yq2z⟩) (by assumption) ?rq2z
      case yq2z => (intro w hSw; (try dsimp only at hSw); have ua0 := hua0 w hSw; have ua1 := hua1 w hSw; have ua2 := hua2 w hSw; have ua3 := hua3 w hSw; have ub0 := hub0 w hSw; have ub1 := hub1 w hSw; have ub2 := hub2 w hSw; have ub3 := hub3 w hSw; have uc0 := huc0 w hSw; have uc1 := huc1 w hSw; have uc2 := huc2 w hSw; have uc3 := huc3 w hSw; go_simp <;> with_reducible rfl)
      simp only [Act.put, List.setIfInBounds_toArray, List.set_cons_zero, List.set_cons_succ]
      refine wpAnyH_take (i := 4) (oi := { dst := some 69, op := Op.load 40 (Operand.tmp 4), type := 40, pos := "law.go:85", after := #[], guard := none }) (v := ?vq3z) rfl (by as_aux_lemma => kernel_rfl) (by as_aux_lemma => kernel_rfl) (by as_aux_lemma => kernel_rfl) (fun _ _ _ h => h) (Or.inl ⟨by rfl, ?yq3z⟩) (by assumption) ?rq3z
      case yq3z => (intro w hSw; (try dsimp only at hSw); have ua0 := hua0 w hSw; have ua1 := hua1 w hSw; have ua2 := hua2 w hSw; have ua3 := hua3 w hSw; have ub0 := hub0 w hSw; have ub1 := hub1 w hSw; have ub2 := hub2 w hSw; have ub3 := hub3 w hSw; have uc0 := huc0 w hSw; have uc1 := huc1 w hSw; have uc2 := huc2 w hSw; have uc3 := huc3 w hSw; go_simp <;> with_reducible rfl)
      simp only [Act.put, List.setIfInBounds_toArray, List.set_cons_zero, List.set_cons_succ]
      refine wpAnyH_ready (rs := [2]) (by as_aux_lemma => kernel_rfl) (by simp) ?_
      refine AllReadyH.cons (o := { dst := some 67, op := Op.call { callee := Callee.value (Operand.func 18), args := #[Operand.tmp 65, Operand.tmp 66], argTypes := #[32, 40] }, type := 4, pos := "law.go:85", after := #[{ on := 0, ground := Ground.data }, { on := 1, ground := Ground.data }], guard := none }) rfl (fun K hK => ?_) (by exact AllReadyH.nil)
      rw [if_pos (by rfl)]
      go_simp
      refine (HA.out _ (HLE.out _ (bstep H5.out.2.2.2.1 hB0)) (H5.out.2.2.2.2.new hB0)).mono ?_
      rintro e wA ⟨rfl, hA⟩
      have hBA := bstep hB0 hA
      refine hK.out _ _ (by (try dsimp only); (first | exact hBC | exact hBB | exact hBA | exact hB0)) (fun hHeld => ?_)
      clear hK K
      simp only [List.setIfInBounds_toArray, List.set_cons_zero, List.set_cons_succ]
      refine wpAnyH_ready (rs := [5]) (by as_aux_lemma => kernel_rfl) (by simp) ?_
      refine AllReadyH.cons (o := { dst := some 70, op := Op.call { callee := Callee.value (Operand.func 22), args := #[Operand.tmp 68, Operand.tmp 69], argTypes := #[32, 40] }, type := 4, pos := "law.go:85", after := #[{ on := 3, ground := Ground.data }, { on := 4, ground := Ground.data }, { on := 2, ground := Ground.chain }], guard := none }) rfl (fun K hK => ?_) (by exact AllReadyH.nil)
      rw [if_pos (by rfl)]
      go_simp
      refine (HR.out _ (HLE.out _ (bstep H5.out.2.2.2.1 hBA)) (H5.out.2.2.2.2.new hBA)).mono ?_
      rintro e wB ⟨rfl, hB⟩
      have hBB := bstep hBA hB
      refine hK.out _ _ (by (try dsimp only); (first | exact hBC | exact hBB | exact hBA | exact hB0)) (fun hHeld => ?_)
      clear hK K
      simp only [List.setIfInBounds_toArray, List.set_cons_zero, List.set_cons_succ]
      refine wpAnyH_take (i := 6) (oi := { dst := some 71, op := Op.binOp BinOp.eql 4 (Operand.tmp 67) (Operand.tmp 70) 4, type := 4, pos := "law.go:85", after := #[{ on := 2, ground := Ground.data }, { on := 5, ground := Ground.data }], guard := none }) (v := ?vq6z) rfl (by as_aux_lemma => kernel_rfl) (by as_aux_lemma => kernel_rfl) (by as_aux_lemma => kernel_rfl) (fun _ _ _ h => h) (Or.inl ⟨by rfl, ?yq6z⟩) (by assumption) ?rq6z
      case yq6z => (intro w hSw; (try dsimp only at hSw); have ua0 := hua0 w hSw; have ua1 := hua1 w hSw; have ua2 := hua2 w hSw; have ua3 := hua3 w hSw; have ub0 := hub0 w hSw; have ub1 := hub1 w hSw; have ub2 := hub2 w hSw; have ub3 := hub3 w hSw; have uc0 := huc0 w hSw; have uc1 := huc1 w hSw; have uc2 := huc2 w hSw; have uc3 := huc3 w hSw; go_simp <;> with_reducible rfl)
      simp only [Act.put, List.setIfInBounds_toArray, List.set_cons_zero, List.set_cons_succ]
      refine wpAnyH_take (i := 7) (oi := { dst := some 72, op := Op.move (Operand.tmp 71), type := 4, pos := "law.go:85", after := #[{ on := 6, ground := Ground.data }, { on := 5, ground := Ground.chain }], guard := none }) (v := ?vq7z) rfl (by as_aux_lemma => kernel_rfl) (by as_aux_lemma => kernel_rfl) (by as_aux_lemma => kernel_rfl) (fun _ _ _ h => h) (Or.inl ⟨by rfl, ?yq7z⟩) (by assumption) ?rq7z
      case yq7z => (intro w hSw; (try dsimp only at hSw); have ua0 := hua0 w hSw; have ua1 := hua1 w hSw; have ua2 := hua2 w hSw; have ua3 := hua3 w hSw; have ub0 := hub0 w hSw; have ub1 := hub1 w hSw; have ub2 := hub2 w hSw; have ub3 := hub3 w hSw; have uc0 := huc0 w hSw; have uc1 := huc1 w hSw; have uc2 := huc2 w hSw; have uc3 := huc3 w hSw; go_simp <;> with_reducible rfl)
      simp only [Act.put, List.setIfInBounds_toArray, List.set_cons_zero, List.set_cons_succ]
      refine wpAnyH_take (i := 8) (oi := { dst := some 73, op := Op.load 40 (Operand.tmp 10), type := 40, pos := "law.go:85", after := #[{ on := 7, ground := Ground.guard }], guard := some (7, true) }) (v := ?vq8z) rfl (by as_aux_lemma => kernel_rfl) (by as_aux_lemma => kernel_rfl) (by as_aux_lemma => kernel_rfl) (fun _ _ _ h => h) (Or.inl ⟨by rfl, ?yq8z⟩) (by assumption) ?rq8z
      case yq8z => (intro w hSw; (try dsimp only at hSw); have ua0 := hua0 w hSw; have ua1 := hua1 w hSw; have ua2 := hua2 w hSw; have ua3 := hua3 w hSw; have ub0 := hub0 w hSw; have ub1 := hub1 w hSw; have ub2 := hub2 w hSw; have ub3 := hub3 w hSw; have uc0 := huc0 w hSw; have uc1 := huc1 w hSw; have uc2 := huc2 w hSw; have uc3 := huc3 w hSw; go_simp <;> with_reducible rfl)
      simp only [Act.put, List.setIfInBounds_toArray, List.set_cons_zero, List.set_cons_succ]
      refine wpAnyH_take (i := 9) (oi := { dst := some 74, op := Op.load 40 (Operand.tmp 12), type := 40, pos := "law.go:85", after := #[{ on := 7, ground := Ground.guard }], guard := some (7, true) }) (v := ?vq9z) rfl (by as_aux_lemma => kernel_rfl) (by as_aux_lemma => kernel_rfl) (by as_aux_lemma => kernel_rfl) (fun _ _ _ h => h) (Or.inl ⟨by rfl, ?yq9z⟩) (by assumption) ?rq9z
      case yq9z => (intro w hSw; (try dsimp only at hSw); have ua0 := hua0 w hSw; have ua1 := hua1 w hSw; have ua2 := hua2 w hSw; have ua3 := hua3 w hSw; have ub0 := hub0 w hSw; have ub1 := hub1 w hSw; have ub2 := hub2 w hSw; have ub3 := hub3 w hSw; have uc0 := huc0 w hSw; have uc1 := huc1 w hSw; have uc2 := huc2 w hSw; have uc3 := huc3 w hSw; go_simp <;> with_reducible rfl)
      simp only [Act.put, List.setIfInBounds_toArray, List.set_cons_zero, List.set_cons_succ]
      refine wpAnyH_take (i := 10) (oi := { dst := some 75, op := Op.binOp BinOp.eql 40 (Operand.tmp 73) (Operand.tmp 74) 40, type := 4, pos := "law.go:85", after := #[{ on := 8, ground := Ground.data }, { on := 9, ground := Ground.data }, { on := 7, ground := Ground.guard }], guard := some (7, true) }) (v := ?vq10z) rfl (by as_aux_lemma => kernel_rfl) (by as_aux_lemma => kernel_rfl) (by as_aux_lemma => kernel_rfl) (fun _ _ _ h => h) (Or.inl ⟨by rfl, ?yq10z⟩) (by assumption) ?rq10z
      case yq10z => (intro w hSw; (try dsimp only at hSw); have ua0 := hua0 w hSw; have ua1 := hua1 w hSw; have ua2 := hua2 w hSw; have ua3 := hua3 w hSw; have ub0 := hub0 w hSw; have ub1 := hub1 w hSw; have ub2 := hub2 w hSw; have ub3 := hub3 w hSw; have uc0 := huc0 w hSw; have uc1 := huc1 w hSw; have uc2 := huc2 w hSw; have uc3 := huc3 w hSw; go_simp <;> with_reducible rfl)
      simp only [Act.put, List.setIfInBounds_toArray, List.set_cons_zero, List.set_cons_succ]
      refine wpAnyH_take (i := 11) (oi := { dst := some 76, op := Op.pick (Operand.tmp 72) (Operand.tmp 75) (Operand.const (Value.bool false)), type := 4, pos := "law.go:85", after := #[{ on := 7, ground := Ground.data }, { on := 10, ground := Ground.data }], guard := none }) (v := ?vq11z) rfl (by as_aux_lemma => kernel_rfl) (by as_aux_lemma => kernel_rfl) (by as_aux_lemma => kernel_rfl) (fun _ _ _ h => h) (Or.inl ⟨by rfl, ?yq11z⟩) (by assumption) ?rq11z
      case yq11z => (intro w hSw; (try dsimp only at hSw); have ua0 := hua0 w hSw; have ua1 := hua1 w hSw; have ua2 := hua2 w hSw; have ua3 := hua3 w hSw; have ub0 := hub0 w hSw; have ub1 := hub1 w hSw; have ub2 := hub2 w hSw; have ub3 := hub3 w hSw; have uc0 := huc0 w hSw; have uc1 := huc1 w hSw; have uc2 := huc2 w hSw; have uc3 := huc3 w hSw; go_simp <;> with_reducible rfl)
      simp only [Act.put, List.setIfInBounds_toArray, List.set_cons_zero, List.set_cons_succ]
      refine wpAnyH_take (i := 12) (oi := { dst := some 77, op := Op.move (Operand.tmp 76), type := 4, pos := "law.go:85", after := #[{ on := 11, ground := Ground.data }, { on := 7, ground := Ground.chain }], guard := none }) (v := ?vq12z) rfl (by as_aux_lemma => kernel_rfl) (by as_aux_lemma => kernel_rfl) (by as_aux_lemma => kernel_rfl) (fun _ _ _ h => h) (Or.inl ⟨by rfl, ?yq12z⟩) (by assumption) ?rq12z
      case yq12z => (intro w hSw; (try dsimp only at hSw); have ua0 := hua0 w hSw; have ua1 := hua1 w hSw; have ua2 := hua2 w hSw; have ua3 := hua3 w hSw; have ub0 := hub0 w hSw; have ub1 := hub1 w hSw; have ub2 := hub2 w hSw; have ub3 := hub3 w hSw; have uc0 := huc0 w hSw; have uc1 := huc1 w hSw; have uc2 := huc2 w hSw; have uc3 := huc3 w hSw; go_simp <;> with_reducible rfl)
      simp only [Act.put, List.setIfInBounds_toArray, List.set_cons_zero, List.set_cons_succ]
      refine wpAnyH_take (i := 13) (oi := { dst := some 78, op := Op.move (Operand.tmp 11), type := 4, pos := "law.go:85", after := #[{ on := 12, ground := Ground.guard }], guard := some (12, true) }) (v := ?vq13z) rfl (by as_aux_lemma => kernel_rfl) (by as_aux_lemma => kernel_rfl) (by as_aux_lemma => kernel_rfl) (fun _ _ _ h => h) (Or.inl ⟨by rfl, ?yq13z⟩) (by assumption) ?rq13z
      case yq13z => (intro w hSw; (try dsimp only at hSw); have ua0 := hua0 w hSw; have ua1 := hua1 w hSw; have ua2 := hua2 w hSw; have ua3 := hua3 w hSw; have ub0 := hub0 w hSw; have ub1 := hub1 w hSw; have ub2 := hub2 w hSw; have ub3 := hub3 w hSw; have uc0 := huc0 w hSw; have uc1 := huc1 w hSw; have uc2 := huc2 w hSw; have uc3 := huc3 w hSw; go_simp <;> with_reducible rfl)
      simp only [Act.put, List.setIfInBounds_toArray, List.set_cons_zero, List.set_cons_succ]
      refine wpAnyH_take (i := 14) (oi := { dst := some 79, op := Op.move (Operand.tmp 13), type := 4, pos := "law.go:85", after := #[{ on := 12, ground := Ground.guard }], guard := some (12, true) }) (v := ?vq14z) rfl (by as_aux_lemma => kernel_rfl) (by as_aux_lemma => kernel_rfl) (by as_aux_lemma => kernel_rfl) (fun _ _ _ h => h) (Or.inl ⟨by rfl, ?yq14z⟩) (by assumption) ?rq14z
      case yq14z => (intro w hSw; (try dsimp only at hSw); have ua0 := hua0 w hSw; have ua1 := hua1 w hSw; have ua2 := hua2 w hSw; have ua3 := hua3 w hSw; have ub0 := hub0 w hSw; have ub1 := hub1 w hSw; have ub2 := hub2 w hSw; have ub3 := hub3 w hSw; have uc0 := huc0 w hSw; have uc1 := huc1 w hSw; have uc2 := huc2 w hSw; have uc3 := huc3 w hSw; go_simp <;> with_reducible rfl)
      simp only [Act.put, List.setIfInBounds_toArray, List.set_cons_zero, List.set_cons_succ]
      refine wpAnyH_take (i := 15) (oi := { dst := some 80, op := Op.binOp BinOp.eql 4 (Operand.tmp 78) (Operand.tmp 79) 4, type := 4, pos := "law.go:85", after := #[{ on := 13, ground := Ground.data }, { on := 14, ground := Ground.data }, { on := 12, ground := Ground.guard }], guard := some (12, true) }) (v := ?vq15z) rfl (by as_aux_lemma => kernel_rfl) (by as_aux_lemma => kernel_rfl) (by as_aux_lemma => kernel_rfl) (fun _ _ _ h => h) (Or.inl ⟨by rfl, ?yq15z⟩) (by assumption) ?rq15z
      case yq15z => (intro w hSw; (try dsimp only at hSw); have ua0 := hua0 w hSw; have ua1 := hua1 w hSw; have ua2 := hua2 w hSw; have ua3 := hua3 w hSw; have ub0 := hub0 w hSw; have ub1 := hub1 w hSw; have ub2 := hub2 w hSw; have ub3 := hub3 w hSw; have uc0 := huc0 w hSw; have uc1 := huc1 w hSw; have uc2 := huc2 w hSw; have uc3 := huc3 w hSw; go_simp <;> with_reducible rfl)
      simp only [Act.put, List.setIfInBounds_toArray, List.set_cons_zero, List.set_cons_succ]
      refine wpAnyH_take (i := 16) (oi := { dst := some 81, op := Op.pick (Operand.tmp 77) (Operand.tmp 80) (Operand.const (Value.bool false)), type := 4, pos := "law.go:85", after := #[{ on := 12, ground := Ground.data }, { on := 15, ground := Ground.data }], guard := none }) (v := ?vq16z) rfl (by as_aux_lemma => kernel_rfl) (by as_aux_lemma => kernel_rfl) (by as_aux_lemma => kernel_rfl) (fun _ _ _ h => h) (Or.inl ⟨by rfl, ?yq16z⟩) (by assumption) ?rq16z
      case yq16z => (intro w hSw; (try dsimp only at hSw); have ua0 := hua0 w hSw; have ua1 := hua1 w hSw; have ua2 := hua2 w hSw; have ua3 := hua3 w hSw; have ub0 := hub0 w hSw; have ub1 := hub1 w hSw; have ub2 := hub2 w hSw; have ub3 := hub3 w hSw; have uc0 := huc0 w hSw; have uc1 := huc1 w hSw; have uc2 := huc2 w hSw; have uc3 := huc3 w hSw; go_simp <;> with_reducible rfl)
      simp only [Act.put, List.setIfInBounds_toArray, List.set_cons_zero, List.set_cons_succ]
      refine wpAnyH_take (i := 17) (oi := { dst := some 82, op := Op.move (Operand.tmp 81), type := 4, pos := "law.go:85", after := #[{ on := 16, ground := Ground.data }, { on := 12, ground := Ground.chain }], guard := none }) (v := ?vq17z) rfl (by as_aux_lemma => kernel_rfl) (by as_aux_lemma => kernel_rfl) (by as_aux_lemma => kernel_rfl) (fun _ _ _ h => h) (Or.inl ⟨by rfl, ?yq17z⟩) (by assumption) ?rq17z
      case yq17z => (intro w hSw; (try dsimp only at hSw); have ua0 := hua0 w hSw; have ua1 := hua1 w hSw; have ua2 := hua2 w hSw; have ua3 := hua3 w hSw; have ub0 := hub0 w hSw; have ub1 := hub1 w hSw; have ub2 := hub2 w hSw; have ub3 := hub3 w hSw; have uc0 := huc0 w hSw; have uc1 := huc1 w hSw; have uc2 := huc2 w hSw; have uc3 := huc3 w hSw; go_simp <;> with_reducible rfl)
      simp only [Act.put, List.setIfInBounds_toArray, List.set_cons_zero, List.set_cons_succ]
      refine wpAnyH_ready (rs := [18]) (by as_aux_lemma => kernel_rfl) (by simp) ?_
      refine AllReadyH.cons (o := { dst := some 83, op := Op.call { callee := Callee.value (Operand.func 9), args := #[], argTypes := #[] }, type := 4, pos := "law.go:85", after := #[{ on := 17, ground := Ground.chain }, { on := 17, ground := Ground.guard }], guard := some (17, true) }) rfl (fun K hK => ?_) (by exact AllReadyH.nil)
      rw [if_pos (by rfl)]
      go_simp
      refine (HWk.out _).mono ?_
      rintro e wC ⟨rfl, hC⟩
      have hBC := bstep hBB hC
      refine hK.out _ _ (by (try dsimp only); (first | exact hBC | exact hBB | exact hBA | exact hB0)) (fun hHeld => ?_)
      clear hK K
      simp only [List.setIfInBounds_toArray, List.set_cons_zero, List.set_cons_succ]
      refine wpAnyH_take (i := 19) (oi := { dst := some 84, op := Op.pick (Operand.tmp 82) (Operand.tmp 83) (Operand.const (Value.bool false)), type := 4, pos := "law.go:85", after := #[{ on := 17, ground := Ground.data }, { on := 18, ground := Ground.data }], guard := none }) (v := ?vq19z) rfl (by as_aux_lemma => kernel_rfl) (by as_aux_lemma => kernel_rfl) (by as_aux_lemma => kernel_rfl) (fun _ _ _ h => h) (Or.inl ⟨by rfl, ?yq19z⟩) (by assumption) ?rq19z
      case yq19z => (intro w hSw; (try dsimp only at hSw); have ua0 := hua0 w hSw; have ua1 := hua1 w hSw; have ua2 := hua2 w hSw; have ua3 := hua3 w hSw; have ub0 := hub0 w hSw; have ub1 := hub1 w hSw; have ub2 := hub2 w hSw; have ub3 := hub3 w hSw; have uc0 := huc0 w hSw; have uc1 := huc1 w hSw; have uc2 := huc2 w hSw; have uc3 := huc3 w hSw; go_simp <;> with_reducible rfl)
      simp only [Act.put, List.setIfInBounds_toArray, List.set_cons_zero, List.set_cons_succ]
      refine wpAnyH_take (i := 20) (oi := { dst := some 6, op := Op.assign (Operand.tmp 84), type := 4, pos := "law.go:85", after := #[{ on := 19, ground := Ground.data }, { on := 18, ground := Ground.chain }, { on := 0, ground := Ground.phase }, { on := 1, ground := Ground.phase }, { on := 2, ground := Ground.phase }, { on := 3, ground := Ground.phase }, { on := 4, ground := Ground.phase }, { on := 5, ground := Ground.phase }, { on := 6, ground := Ground.phase }, { on := 7, ground := Ground.phase }, { on := 8, ground := Ground.phase }, { on := 9, ground := Ground.phase }, { on := 10, ground := Ground.phase }, { on := 11, ground := Ground.phase }, { on := 12, ground := Ground.phase }, { on := 13, ground := Ground.phase }, { on := 14, ground := Ground.phase }, { on := 15, ground := Ground.phase }, { on := 16, ground := Ground.phase }, { on := 17, ground := Ground.phase }, { on := 18, ground := Ground.phase }, { on := 19, ground := Ground.phase }], guard := none }) (v := ?vq20z) rfl (by as_aux_lemma => kernel_rfl) (by as_aux_lemma => kernel_rfl) (by as_aux_lemma => kernel_rfl) (fun _ _ _ h => h) (Or.inl ⟨by rfl, ?yq20z⟩) (by assumption) ?rq20z
      case yq20z => (intro w hSw; (try dsimp only at hSw); have ua0 := hua0 w hSw; have ua1 := hua1 w hSw; have ua2 := hua2 w hSw; have ua3 := hua3 w hSw; have ub0 := hub0 w hSw; have ub1 := hub1 w hSw; have ub2 := hub2 w hSw; have ub3 := hub3 w hSw; have uc0 := huc0 w hSw; have uc1 := huc1 w hSw; have uc2 := huc2 w hSw; have uc3 := huc3 w hSw; go_simp <;> with_reducible rfl)
      simp only [Act.put, List.setIfInBounds_toArray, List.set_cons_zero, List.set_cons_succ]
      refine wpAnyH_done (by as_aux_lemma => kernel_rfl) ?_ _
      have HE := Lib.hid (bstep H5.out.2.2.2.1 hBC)
      go_wp2_with fail
      go_ret
      exact ⟨rfl, HE.out⟩
end Go.Proofs.YtcdmaapjcckbmaaDoor

/- code's laws: CodeMarks: the arguments opened. -/
namespace Go.Proofs.YtcdmaapjcckbmaaDoor
open Go.RowKit Go.ChangeShapes Go.WideShapes Go.ChangeAt

theorem take1 {α : Type} {cs : List α} {i : Nat} {v : α} (h : (cs.drop i).take 1 = [v]) : cs[i]? = some v := by
  have := congrArg (fun l : List α => l[0]?) h
  simpa [List.getElem?_take, List.getElem?_drop] using this
theorem arrW : WideMaps.ArrKey Tryd.prog 40 23 4 := ⟨by kernel_rfl, by kernel_rfl, by kernel_rfl, by kernel_rfl⟩
/-- A word's datum. -/
def datW {H : Type} (n : Nat) : DataW H := .agg [.lit (.int .u64 (lb n 0)), .lit (.int .u64 (lb n 1)), .lit (.int .u64 (lb n 2)), .lit (.int .u64 (lb n 3))]
theorem lb_wf (n i : Nat) : (Lit.int .u64 (lb n i)).wf = true := WalkArith.wf_u64 (by have := lb_nonneg n i; have := lb_le n i; omega)

section
variable {H : Type} {enc : TypeId × Value → H} {X : World} {base : Nat} {sp : Nat → Bool} {held : Bool}
set_option maxRecDepth 100000 in
theorem bytes_open {fuel : Nat} {v : Value} {y : DataW H × List MemPlace} (h : DataW.trod enc Tryd.prog X base sp held fuel 32 [v] = some y) :
    ∃ l x c, v = .slice x l.length c ∧ Bto X.heap.size X v l ∧ ∀ n c, v = .slice none n c → c = 0 := by
  have hu : Tryd.prog.underlying 32 = some (.slice 5) := by kernel_rfl
  have hc : Tryd.prog.cellsOf 5 = 1 := by kernel_rfl
  have h8 : Tryd.prog.underlying 5 = some (.int .u8) := by kernel_rfl
  rcases Go.Deep.open_slice1 hu hc h with ⟨h0, _⟩ | ⟨a, len, cap, m, n, V, D, Pl, h0, hb, hl, hm, hmm, hx, hall⟩
  · simp at h0
    subst h0
    exact ⟨[], none, 0, rfl, ⟨by simp, none, 0, rfl, Nat.le_refl _, by simp, fun h => (h rfl).elim⟩, fun n c e => by cases e; rfl⟩
  · simp at h0
    subst h0
    have hlm : len ≤ m := by rw [hmm]; split <;> omega
    have hel : ∀ i, i < len → ∃ q : Nat, q < 256 ∧ X.cell? (a.add i) = some (.int .u8 q) := fun i hi => by
      obtain ⟨h1, h2⟩ := hall i (by omega)
      obtain ⟨z, e, _, hw⟩ := DataW.trod_int h8 h2
      simp at e
      have hz := bounds_u8 hw
      obtain ⟨q, rfl⟩ := Int.eq_ofNat_of_zero_le hz.1
      exact ⟨q, by omega, by rw [h1, e]⟩
    obtain ⟨f, hF⟩ := Go.Deep.choose_lt (α := Nat) (p := fun i q => q < 256 ∧ X.cell? (a.add i) = some (.int .u8 q)) hel
    have hL : ((List.range len).map f).length = len := by simp
    refine ⟨(List.range len).map f, some a, cap, by rw [hL], ⟨fun x hx => ?_, some a, cap, by rw [hL], by rw [hL]; exact hl, by rw [hL]; unfold maxLen at hm; omega, fun hne => ?_⟩, fun n c e => by cases e⟩
    · simp only [List.mem_map, List.mem_range] at hx
      obtain ⟨i, hi, rfl⟩ := hx
      exact (hF i hi).1
    · obtain ⟨b, o, spot⟩ := a
      have h0' : 0 < len := by rw [← hL]; exact List.length_pos_iff.2 hne
      have hspot : spot = none := by simpa [Addr.add] using World.cell?_spot (hF 0 h0').2
      subst hspot
      have hlt : b < X.heap.size := by
        have := World.block_lt_of_cell? X _ (hF 0 h0').2
        simpa [add_plain] using this
      refine ⟨b, o, rfl, hlt, hlt, fun k u hu => ?_⟩
      have hk : k < len := by have := (List.getElem?_eq_some_iff.1 hu).1; rwa [hL] at this
      rw [List.getElem?_map, List.getElem?_range hk] at hu
      cases hu
      have e1 := (hF k hk).2
      rwa [add_plain] at e1
set_option maxRecDepth 100000 in
theorem arg_bytes {r : Reach} {b0 : Nat} {v : Value} {d : DataW H} {p : List MemPlace} (_hv : Value.okWide Tryd.prog X r b0 32 v) (h : DataW.Trod enc Tryd.prog X base sp held 32 v d p) : ∃ l x c, v = .slice x l.length c ∧ Bto X.heap.size X v l ∧ ∀ n c, v = .slice none n c → c = 0 := by
  obtain ⟨x0, l0, c0, rfl⟩ := okWide_slice (show Tryd.prog.underlying 32 = some (.slice 5) by kernel_rfl) _hv
  obtain ⟨fuel, hf⟩ := h
  exact bytes_open (v := .slice x0 l0 c0) hf

set_option maxRecDepth 100000 in
theorem open_word10 {r : Reach} {b0 : Nat} {v : Value} {d : DataW H} {p : List MemPlace} (hv : Value.okWide Tryd.prog X r b0 40 v) (h : DataW.Trod enc Tryd.prog X base sp held 40 v d p) :
    ∃ n, n < MM ∧ v = .agg #[.int .u64 (lb n 0), .int .u64 (lb n 1), .int .u64 (lb n 2), .int .u64 (lb n 3)] ∧ d = datW n ∧ p = [] := by
  obtain ⟨xs, rfl, hn⟩ := WideMaps.okWide_arr arrW hv
  obtain ⟨c0, c1, c2, c3, rfl⟩ := Joins.array4 hn
  obtain ⟨fuel, hf⟩ := h
  obtain ⟨y0, y1, y2, y3, m, hx, h0, h1, h2, h3⟩ := trod_array4 arrW.hu arrW.one (by simpa [Value.cells] using hf)
  obtain ⟨a0, e0, rfl, w0⟩ := DataW.trod_int Tryd.underlying23 h0
  obtain ⟨a1, e1, rfl, w1⟩ := DataW.trod_int Tryd.underlying23 h1
  obtain ⟨a2, e2, rfl, w2⟩ := DataW.trod_int Tryd.underlying23 h2
  obtain ⟨a3, e3, rfl, w3⟩ := DataW.trod_int Tryd.underlying23 h3
  simp at e0 e1 e2 e3
  subst e0 e1 e2 e3
  have g0 := bounds_u64 w0
  have g1 := bounds_u64 w1
  have g2 := bounds_u64 w2
  have g3 := bounds_u64 w3
  obtain ⟨n, hM, rfl, rfl, rfl, rfl⟩ := word_of ⟨g0.1, g0.2⟩ ⟨g1.1, g1.2⟩ ⟨g2.1, g2.2⟩ ⟨g3.1, g3.2⟩
  simp only [Prod.mk.injEq] at hx
  exact ⟨n, hM, rfl, hx.1, by simpa using hx.2⟩

end
set_option maxRecDepth 100000 in
theorem marks_all {H : Type} {enc : TypeId × Value → H} {X : World} {base base2 base3 : Nat} {sp sp2 sp3 : Nat → Bool} {held held2 held3 : Bool} {r r2 r3 : Reach} {b0 b2 b3 : Nat} {v0 v1 v2 : Value} {d0 d1 d2 : DataW H} {p0 p1 p2 : List MemPlace} (hv0 : Value.okWide Tryd.prog X r b0 32 v0) (h0 : DataW.Trod enc Tryd.prog X base sp held 32 v0 d0 p0) (hv1 : Value.okWide Tryd.prog X r2 b2 40 v1) (h1 : DataW.Trod enc Tryd.prog X base2 sp2 held2 40 v1 d1 p1) (hv2 : Value.okWide Tryd.prog X r3 b3 3 v2) (h2 : DataW.Trod enc Tryd.prog X base3 sp3 held3 3 v2 d2 p2) :
    Calls Tryd.prog 5 #[v0, v1, v2] X fun e w' => e = .returned (.bool true) ∧ Below X.heap.size X w' := by
  obtain ⟨l, x, c, rfl, hl, _⟩ := arg_bytes hv0 h0
  obtain ⟨n, _, rfl, _, _⟩ := open_word10 hv1 h1
  obtain ⟨k, rfl, _, _, _⟩ := open_int Tryd.underlying3 hv2 h2
  by_cases hs : l.length ≤ 300
  · exact marks_walk X.heap.size _ l hs n k X (Nat.le_refl _) hl
  · exact marks_long x l.length c (by omega) n k X
end Go.Proofs.YtcdmaapjcckbmaaDoor

