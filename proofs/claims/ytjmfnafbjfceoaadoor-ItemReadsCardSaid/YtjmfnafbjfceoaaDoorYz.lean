/- item: the reference's read of a list. -/
import Derived.Test.YtjmfnafbjfceoaaDoorQm
import Derived.Test.YtjmfnafbjfceoaaDoorYj
import Derived.Test.YtjmfnafbjfceoaaDoorQl
import Derived.Maps.AppendAt
namespace Go.Proofs.YtjmfnafbjfceoaaDoor
open Go.RowKit Go.Shelf
set_option linter.unusedSimpArgs false
attribute [local irreducible] lb wdG byA byC heL nuL
theorem itL_fuel (f : Nat → List Nat → Option It) : ∀ (n m : Nat) (b : List Nat), b.length ≤ n → b.length ≤ m → itL f n b = itL f m b
  | n, m, [], _, _ => by cases n <;> cases m <;> rfl
  | 0, _, _ :: _, h, _ => by simp at h
  | _ + 1, 0, _ :: _, _, h => by simp at h
  | n + 1, m + 1, x :: xs, h1, h2 => by
    rw [itL, itL]
    cases hc : cutS (x :: xs) with
    | none => rfl
    | some q =>
      obtain ⟨k, b, r⟩ := q
      have hl := (cut_less hc).2
      simp only
      cases f k b with
      | none => rfl
      | some t =>
        simp only
        rw [itL_fuel f n m r (by omega) (by omega)]
/-- The items of bytes to their end. -/
def itsR (d : Nat) (b : List Nat) : Option (List It) := itL (rdPl d) b.length b
theorem itsR_nil (d : Nat) : itsR d [] = some [] := rfl
theorem itsR_step (d : Nat) (b : List Nat) (hb : b ≠ []) : itsR d b = match rdS d b with
    | none => none
    | some (t, r) => (itsR d r).map (t :: ·) := by
  cases b with
  | nil => exact absurd rfl hb
  | cons x xs =>
    unfold itsR
    rw [List.length_cons, itL]
    unfold rdS
    cases hc : cutS (x :: xs) with
    | none => rfl
    | some q =>
      obtain ⟨k, b, r⟩ := q
      have hl := (cut_less hc).2
      rw [List.length_cons] at hl
      simp only
      cases hf : rdPl d k b with
      | none => rfl
      | some t =>
        simp only [Option.map_some]
        rw [itL_fuel (rdPl d) xs.length r.length r (by omega) (Nat.le_refl _)]
theorem leS_suffix {s : Nat} {r r2 : List Nat} {n : Nat} (h : leS s r = some (n, r2)) : r2 <:+ r := by
  rw [leS_drop h]; exact List.drop_suffix _ _
theorem cut_suffix {l : List Nat} {k : Nat} {b r : List Nat} (h : cutS l = some (k, b, r)) : r <:+ l := by
  cases l with
  | nil => cases h
  | cons f r0 =>
    rw [cutS_cons] at h
    split at h
    · injection h with h; injection h with _ h; injection h with _ h2; subst h2
      exact List.suffix_cons _ _
    · cases hl : leS (f - hdN (kdN f)) r0 with
      | none => rw [hl] at h; cases h
      | some nr =>
        obtain ⟨n, r2⟩ := nr
        rw [hl] at h
        have h2 := leS_suffix hl
        simp only at h
        split at h
        · cases h
        · injection h with h; injection h with _ h; injection h with _ h4; subst h4
          exact (List.drop_suffix _ _).trans (h2.trans (List.suffix_cons _ _))
theorem rdS_drop {d : Nat} {l : List Nat} {t : It} {r : List Nat} (h : rdS d l = some (t, r)) : l.drop (l.length - r.length) = r := by
  unfold rdS at h
  cases hc : cutS l with
  | none => rw [hc] at h; cases h
  | some q =>
    obtain ⟨k, b, r2⟩ := q
    rw [hc] at h
    simp only at h
    cases hr : rdPl d k b with
    | none => rw [hr] at h; cases h
    | some u =>
      rw [hr] at h
      cases h
      exact (List.suffix_iff_eq_drop.1 (cut_suffix hc)).symm
/-- Items in an own row. -/
theorem itsP_row {X : World} {base p c : Nat} {x : Option Addr} {vs : List Value} (h : X.ownsRow base 25 3 (.slice x p c) p (vs.flatMap v3)) (hl : vs.length = p) (hIs : ∀ v ∈ vs, IsI v) (hp : p ≤ 4096) : ItsP (fun b => base ≤ b) X (.slice x p c) vs := by
  refine ⟨x, c, by rw [hl], by omega, fun hne => ?_⟩
  have hpos : 0 < p := by rw [← hl]; exact List.length_pos_iff.2 hne
  obtain ⟨g, cap, e⟩ := Go.Joins.ownsRow_form h hpos
  cases e
  refine ⟨g, 0, rfl, (h.lt g rfl).1, (h.lt g rfl).2, fun i v hv => ?_⟩
  obtain ⟨b, x, m, c, y, n, d, rfl⟩ := hIs v (List.mem_of_getElem? hv)
  have hi3 : i < p := by rw [← hl]; exact (List.getElem?_eq_some_iff.1 hv).1
  have hg3 := v3_get vs hIs i b x m c y n d hv
  refine ⟨b, x, m, c, y, n, d, rfl, ?_, ?_, ?_⟩
  · rw [Nat.zero_add, h.cellAt _ (by omega)]; exact hg3.1
  · rw [Nat.zero_add, h.cellAt _ (by omega)]; exact hg3.2.1
  · rw [Nat.zero_add, h.cellAt _ (by omega)]; exact hg3.2.2
/-- What read owes of a list. -/
def RlP (o : Option (List It)) (kn : Nat) (w : World) (e : Ending) (w' : World) : Prop := Below w.heap.size w w' ∧ (match o with
  | some ts => ∃ b x m c y n d, e = .returned (.tuple #[itW b x m c y n d, .int .i64 (kn : Nat), .bool true]) ∧ ItP (fun b => w.heap.size ≤ b) w' (.mk true [] ts) (itW b x m c y n d)
  | none => ∃ b x m c y n d, ∃ k : Int, e = .returned (.tuple #[itW b x m c y n d, .int .i64 k, .bool false]))
set_option maxRecDepth 100000 in
set_option maxHeartbeats 4000000 in
theorem rread_list (B b o q c f : Nat) (l body : List Nat) (n k kn : Nat) (d : Nat) (w : World) (hB : B ≤ w.heap.size) (hv : Bt B w (.slice (some ⟨b, o, none⟩) q c) l) (hq : l.length = q) (hl : q ≤ 4096) (c0 : w.cell? ⟨b, o, none⟩ = some (.int .u8 (f : Nat))) (hb : b < w.heap.size) (h192 : ¬ f < 192) (hk : 1 ≤ k) (hkn : k + n = kn) (hknq : kn ≤ q) (hn : 0 < n) (hck : ¬ c = k) (hbody : (l.drop k).take n = body) (hd9 : d ≤ 9)
    (hL : ∀ X, Below w.heap.size w X → Calls Tryd.prog 59 #[.slice (some ⟨b, o, none⟩) q c, .int .i64 (192 : Nat)] X (LnP (some (n, k)) X))
    (ih : ∀ X v l2, w.heap.size ≤ X.heap.size → Bt B X v l2 → l2.length ≤ 4096 → Calls Tryd.prog 38 #[v, .int .i64 (d : Nat)] X (RrP (rdS d l2) l2 X)) :
    Calls Tryd.prog 38 #[.slice (some ⟨b, o, none⟩) q c, .int .i64 (d + 1 : Nat)] w (RlP (itsR d body) kn w) := by
  obtain ⟨RS, hRS⟩ : ∃ RS, itsR d body = RS := ⟨_, rfl⟩
  rw [hRS]
  have HRS := Lib.hid hRS
  clear hRS
  have hcap : q ≤ c := by obtain ⟨_, _, _, e, h, _⟩ := id hv; cases e; omega
  have hW := balloc (Below.refl w.heap.size w) (.cells #[.bool false, .slice none 0 0, .slice none 0 0] 25)
  have c1 := (hW.cell (p := ⟨b, o, none⟩) hb).trans c0
  have g0 : ¬ (f : Int) < 128 := by omega
  have g1 : ((q : Int) == 0) = false := by simp; omega
  have g2 : (0 : Int) < (q : Int) := by omega
  have g3 : ¬ ((d + 1 : Nat) : Int) < 1 := by omega
  have HC := Lib.hid (hL _ hW)
  have hI := Blk.new w 25 #[.bool false, .slice none 0 0, .slice none 0 0]
  have hown : ∀ X, Bt B X (.slice (some ⟨b, o, none⟩) q c) l → Bt B X (.slice (some ⟨b, o + k, none⟩) n (c - k)) body := fun X h => by
    rw [← hq] at h
    have h1 := Bt.drop h k (by omega)
    rw [if_neg hck] at h1
    have h2 := Bt.take (l := l.drop k) (by rw [List.length_drop]; exact h1) n (by rw [List.length_drop]; omega)
    rw [Option.map_some, Go.WideShapes.add_plain, hbody] at h2; exact h2
  have hln : body.length = n := by rw [← hbody, List.length_take, List.length_drop]; omega
  have HW := Lib.hid (And.intro hW (And.intro hI (And.intro (hv.new hW) (And.intro hown hln))))
  have g4 : (192 : Int) ≤ (f : Int) := by omega
  have g5 : IntKind.i64.wrap ((k : Int) + (n : Int)) = (kn : Int) := (IntWalk.i64_in _ (by omega)).trans (by omega)
  have g6 : (k : Int) ≤ (kn : Int) := by omega
  have g7 : (kn : Int) ≤ (c : Int) := by omega
  have g8 : (kn : Int) ≤ (q : Int) := by omega
  have g9 : (0 : Int) ≤ (k : Int) := by omega
  have g10 : IntKind.i64.wrap (((d + 1 : Nat) : Int) - 1) = (d : Int) := (IntWalk.i64_in _ (by omega)).trans (by omega)
  obtain ⟨dd, hdd⟩ : ∃ dd, d + 1 = dd := ⟨_, rfl⟩
  rw [hdd] at g3 g10 ⊢
  have HKN := Lib.hid (show kn - k = n by omega)
  have HIH := Lib.hid ih
  clear hW hq hb hL hI hv hown hln ih hdd
  go_enter Tryd.func38, Tryd.ntmps38
  go_wp2_with fail
  refine HC.out.mono ?_
  rintro e w1 ⟨h1, rfl⟩
  have hI1 := HW.out.2.1.keep h1
  have H1 := Lib.hid (And.intro (bstep HW.out.1 h1) (And.intro hI1 (HW.out.2.2.2.1 w1 (HW.out.2.2.1.new h1))))
  clear h1 HC hI1
  go_wp2_with fail
  rw [HKN.out]
  obtain ⟨ok, hok⟩ : ∃ ok, o + k = ok := ⟨_, rfl⟩
  obtain ⟨cc, hcc⟩ : ∃ cc, c - k = cc := ⟨_, rfl⟩
  have hncc : n ≤ cc := by omega
  rw [hok, hcc] at H1 ⊢
  have hwl : w.heap.size < w1.heap.size := H1.out.2.1.lt
  have HB0 := Lib.hid (And.intro hB (And.intro hkn hd9))
  have HLN := Lib.hid HW.out.2.2.2.2
  have HLT := Lib.hid (show n ≤ 4096 by omega)
  clear c1 g0 g1 g2 g3 g4 g6 g7 g8 g9 c0 h192 hk hknq hck hcap HW HKN hl hB hd9 hok hcc hbody
  go_loopw [13] (fun i wr => ∃ (kk : Nat) (ts1 : List It) (rest : List Nat) (vs : List Value) (xl : Option Addr) (p cl : Nat), i = .int .i64 (kk : Int) ∧ kk ≤ n ∧ body.drop kk = rest ∧ RS = (itsR d rest).map (ts1 ++ ·) ∧ ts1.length = p ∧ vs.length = p ∧ (∀ v ∈ vs, IsI v) ∧ p ≤ kk ∧
    Blk wr w.heap.size 25 #[.bool false, .slice none 0 0, .slice none 0 0] ∧ Blk wr w1.heap.size 25 #[.bool true, .slice none 0 0, .slice xl p cl] ∧ wr.ownsRow (w1.heap.size + 1) 25 3 (.slice xl p cl) p (vs.flatMap v3) ∧
    (∀ (i : Nat) t v, ts1[i]? = some t → vs[i]? = some v → ItP (fun b => w1.heap.size + 1 ≤ b ∧ (Value.slice xl p cl).ownBlock ≠ some b) wr t v) ∧ Below w1.heap.size w1 wr) (fun i _ => n - (intOf i).toNat)
  case atStart =>
    refine ⟨0, [], body, [], none, 0, 0, rfl, by omega, rfl, ?_, rfl, rfl, by simp, Nat.le_refl _, H1.out.2.1.alloc _, Blk.new _ _ _, World.ownsRow_nil _ _ _ _, fun i t v h => by simp at h, balloc (Below.refl _ _) _⟩
    rw [HRS.out]
    cases RS <;> simp
  case round =>
    obtain ⟨kk, ts1, rest, vs, xl, p, cl, rfl, hkk, hrest, hR, hp1, hp2, hIs, hpk, hA, hX, hown, hIt, hbl⟩ := hrel
    have hrl : rest.length = n - kk := by rw [← hrest, List.length_drop, HLN.out]
    have a0 := cell_of_row _ _ 0 _ _ _ hA
    have a1 := cell_of_row _ _ 1 _ _ _ hA
    have a2 := cell_of_row _ _ 2 _ _ _ hA
    have f0 := frozen_of_row _ _ 0 _ _ hA
    have f1 := frozen_of_row _ _ 1 _ _ hA
    have f2 := frozen_of_row _ _ 2 _ _ hA
    have x0 := cell_of_row _ _ 0 _ _ _ hX
    have x1 := cell_of_row _ _ 1 _ _ _ hX
    have x2 := cell_of_row _ _ 2 _ _ _ hX
    by_cases hlt : kk < n
    · have hkI : (kk : Int) < (n : Int) := by omega
      have hk0 : ¬ (kk : Int) < 0 := by omega
      have hne : ¬ cc = kk := by omega
      have q1 : (kk : Int) ≤ (cc : Int) := by omega
      have q2 : (kk : Int) ≤ (n : Int) := by omega
      have hbt : Bt B wr (.slice (some ⟨b, ok + kk, none⟩) (n - kk) (cc - kk)) rest := by
        have h1 := H1.out.2.2.new hbl
        rw [← HLN.out] at h1
        have h2 := Bt.drop h1 kk (by rw [HLN.out]; omega)
        rw [if_neg hne, Option.map_some, Go.WideShapes.add_plain, hrest, HLN.out] at h2
        exact h2
      have hrne : rest ≠ [] := fun e => by rw [e] at hrl; simp at hrl; omega
      have hcall := HIH.out wr _ rest (Nat.le_trans H1.out.1.size hbl.size) hbt (by have := HLT.out; rw [hrl]; omega)
      have hstep := itsR_step d rest hrne
      have hsz := hbl.size
      cases hS : rdS d rest with
      | none =>
        rw [hS] at hcall hstep
        have hRn : RS = none := by rw [hR, hstep]; rfl
        have HC := Lib.hid hcall
        have HK := Lib.hid (And.intro hA (bstep H1.out.1 hbl))
        subst hRn
        clear hp1 hp2 hIs hA hX hown hIt hbl hrest hrl hbt hrne hcall hstep hS a0 a1 a2 f0 f1 f2
        go_wp2_with fail
        refine HC.out.mono ?_
        rintro e2 w2 ⟨h2, b3, x3, m3, c3, y3, n3, d3, k3, rfl⟩
        have hst := balloc (Below.refl w2.heap.size w2) (.cells #[.bool b3, .slice x3 m3 c3, .slice y3 n3 d3] 25)
        have hA2 := (HK.out.1.keep h2).keep hst
        have a0 := cell_of_row _ _ 0 _ _ _ hA2
        have a1 := cell_of_row _ _ 1 _ _ _ hA2
        have a2 := cell_of_row _ _ 2 _ _ _ hA2
        have f0 := frozen_of_row _ _ 0 _ _ hA2
        have f1 := frozen_of_row _ _ 1 _ _ hA2
        have f2 := frozen_of_row _ _ 2 _ _ hA2
        have hG := grown_set' (grown_set' (grown_set' (grown_refl (w2.alloc (.cells #[.bool b3, .slice x3 m3 c3, .slice y3 n3 d3] 25)) w.heap.size) 0 (.bool false)) 1 (.slice none 0 0)) 2 (.slice none 0 0)
        have HE := Lib.hid (step_world (bstep (bstep HK.out.2 h2) hst) hG (Nat.le_refl _) (Nat.le_refl _))
        clear hst hA2 hG h2 HC HK x0 x1 x2
        go_wp2_with fail
        exact bodyPost_ret (v := .tuple #[itW false none 0 0 none 0 0, .int .i64 0, .bool false]) (by simp [results, Tryd.results38, go_sem, a0, a1, a2]) rfl ⟨HE.out, _, _, _, _, _, _, _, _, rfl⟩
      | some tr =>
        obtain ⟨t, r⟩ := tr
        rw [hS] at hcall hstep
        have hrlt := And.intro (rdS_less hS) (rdS_drop hS)
        have HC := Lib.hid hcall
        have HK := Lib.hid (And.intro hR (And.intro hp1 (And.intro hp2 (And.intro hIs (And.intro hA (And.intro hX (And.intro hown (And.intro hIt (And.intro hbl (And.intro hrest (And.intro hrl (And.intro hstep hrlt))))))))))))
        clear hR hp1 hp2 hIs hA hX hown hIt hbl hrest hbt hrne hcall hstep hS a0 a1 a2 f0 f1 f2 x0 x1 x2
        obtain ⟨mm, hmm⟩ : ∃ mm, rest.length - r.length = mm := ⟨_, rfl⟩
        have HMM := Lib.hid hmm
        have q3 : IntKind.i64.wrap ((kk : Int) + (mm : Int)) = ((kk + mm : Nat) : Int) := (IntWalk.i64_in _ (by have := HLT.out; omega)).trans (by omega)
        clear hrlt hmm hrl
        go_wp2_with fail
        refine HC.out.mono ?_
        rintro e2 w2 ⟨h2, b3, x3, m3, c3, y3, n3, d3, rfl, hI⟩
        rw [HMM.out]
        obtain ⟨hR, hp1, hp2, hIs, hA, hX, hown, hIt, hbl, hrest, hrl, hstep, hrlt⟩ := HK.out
        have hst := balloc (Below.refl w2.heap.size w2) (.cells #[.bool b3, .slice x3 m3 c3, .slice y3 n3 d3] 25)
        have hX2 := (hX.keep h2).keep hst
        have x0 := cell_of_row _ _ 0 _ _ _ hX2
        have x1 := cell_of_row _ _ 1 _ _ _ hX2
        have x2 := cell_of_row _ _ 2 _ _ _ hX2
        have e0 := frozen_of_row _ _ 2 _ _ hX2
        have hZ := Blk.new (w2.alloc (.cells #[.bool b3, .slice x3 m3 c3, .slice y3 n3 d3] 25)) 25 #[.bool b3, .slice x3 m3 c3, .slice y3 n3 d3]
        have hst4 : Below wr.heap.size wr ((w2.alloc (.cells #[.bool b3, .slice x3 m3 c3, .slice y3 n3 d3] 25)).alloc (.cells #[.bool b3, .slice x3 m3 c3, .slice y3 n3 d3] 25)) := bstep (bstep h2 hst) (balloc (Below.refl _ _) _)
        have hown4 := hown.kept (grown_new hst4) (by cases hv : (Value.slice xl p cl).ownBlock <;> simp)
        have hX4 := hX.keep hst4
        have hI4 : ItP (fun b => wr.heap.size ≤ b) ((w2.alloc (.cells #[.bool b3, .slice x3 m3 c3, .slice y3 n3 d3] 25)).alloc (.cells #[.bool b3, .slice x3 m3 c3, .slice y3 n3 d3] 25)) t (itW b3 x3 m3 c3 y3 n3 d3) := hI.kept (by simp; omega) (fun b _ hx => ((balloc (balloc (Below.refl w2.heap.size w2) (.cells #[.bool b3, .slice x3 m3 c3, .slice y3 n3 d3] 25)) (.cells #[.bool b3, .slice x3 m3 c3, .slice y3 n3 d3] 25)).block b hx))
        have hs4 : wr.heap.size ≤ ((w2.alloc (.cells #[.bool b3, .slice x3 m3 c3, .slice y3 n3 d3] 25)).alloc (.cells #[.bool b3, .slice x3 m3 c3, .slice y3 n3 d3] 25)).heap.size := hst4.size
        have hs2 : w2.heap.size + 1 < ((w2.alloc (.cells #[.bool b3, .slice x3 m3 c3, .slice y3 n3 d3] 25)).alloc (.cells #[.bool b3, .slice x3 m3 c3, .slice y3 n3 d3] 25)).heap.size := by simp
        have hs0 := h2.size
        have H4 := Lib.hid (And.intro hZ (And.intro hown4 (And.intro hX4 (And.intro hI4 (And.intro hst4 (And.intro hs4 hs0))))))
        clear hR hp1 hp2 hIs hA hX hown hIt hbl hrest hrl hstep hrlt HC hX2 hst hZ hown4 hX4 hI4 hst4 hs4 hs2 hs0 hI h2
        obtain ⟨i0, hi0, hz0, hz1, hz2⟩ := info_parts' infoIt
        have hu : Tryd.prog.underlying 23 = some (.slice 25) := by kernel_rfl
        go_wp2_with (first
          | (at_builtin; refine wpList_append_own_at _ rfl _ _ 23 rfl (w1.heap.size + 1) 25 i0 (itW false none 0 0 none 0 0) 3 56 hu hi0 hz0 hz1 hz2 rfl (by decide) _ p (vs.flatMap v3) rfl ?own ⟨w2.heap.size + 1, 0, none⟩ 1 1 [.bool b3, .slice x3 m3 c3, .slice y3 n3 d3] rfl rfl ?news ?one ?max ?bytes ?base ?_)
          | fail)
        case own => exact H4.out.2.1
        case news =>
          intro j u hj
          rw [Go.WideShapes.add_plain, Nat.zero_add]
          have := cell_of_row _ _ j _ _ _ H4.out.1
          rw [World.size_alloc] at this
          rw [this]
          exact (Array.getElem?_toList ..).symm.trans hj
        case one => intro u hu; simp at hu; rcases hu with rfl | rfl | rfl <;> rfl
        case max => have := HLT.out; have := HK.out.2.2.2.2.2.2.2; unfold maxLen; omega
        case bytes => have := HLT.out; omega
        case base => have := HK.out.2.2.2.2.2.1.lt; have := H4.out.2.2.2.2.2.1; omega
        intro v' w5 hown5 hg5 _ hat
        obtain ⟨gn, cn, rfl⟩ := Go.Joins.ownsRow_form hown5 (by omega)
        obtain ⟨hR, hp1, hp2, hIs, hA, hX, hown, hIt, hbl, hrest, hrl, hstep, hrlt, hrd⟩ := HK.out
        obtain ⟨hZ, hown4, hX4, hI4, hst4, hs4, hs0⟩ := H4.out
        have hs2 : w2.heap.size + 2 = ((w2.alloc (.cells #[.bool b3, .slice x3 m3 c3, .slice y3 n3 d3] 25)).alloc (.cells #[.bool b3, .slice x3 m3 c3, .slice y3 n3 d3] 25)).heap.size := by simp
        have hgl := hown5.lt gn rfl
        have hold : ∀ b, (Value.slice xl p cl).ownBlock = some b → w1.heap.size + 1 ≤ b ∧ b < wr.heap.size := fun b h => hown.lt b h
        have hgn : (Value.slice xl p cl).ownBlock = some gn ∨ gn = w2.heap.size + 2 := hat.elim (fun h => .inl h.symm) (fun h => .inr (Option.some.inj (show some gn = some (w2.heap.size + 2) from h)))
        have hwr1 := hX.lt
        have hs5 := hg5.size
        have hX5 := hX4.kept hg5 (fun e => by have := hold _ e.symm; omega)
        have hIall : ∀ (i : Nat) u v, (ts1 ++ [t])[i]? = some u → (vs ++ [itW b3 x3 m3 c3 y3 n3 d3])[i]? = some v → ItP (fun b => w1.heap.size + 1 ≤ b ∧ b ≠ gn ∧ (Value.slice xl p cl).ownBlock ≠ some b) w5 u v := fun i u v hu hv => by
          by_cases hi : i < vs.length
          · rw [List.getElem?_append_left hi] at hv
            rw [List.getElem?_append_left (by omega)] at hu
            refine ItP.grown (((hIt i u v hu hv).mono (N := fun b => w1.heap.size + 1 ≤ b ∧ b ≠ gn ∧ (Value.slice xl p cl).ownBlock ≠ some b) fun b h hb => ⟨h.1, fun e => ?_, h.2⟩).new hst4) hg5 (fun r e h => h.2.2 e)
            subst e
            rcases hgn with h1 | h1
            · exact h.2 h1
            · omega
          · by_cases hi2 : i = vs.length
            · subst hi2
              rw [List.getElem?_append_right (Nat.le_refl _), Nat.sub_self] at hv
              rw [List.getElem?_append_right (by omega), show vs.length - ts1.length = 0 by omega] at hu
              simp only [List.getElem?_cons_zero, Option.some.injEq] at hv hu
              subst hv hu
              refine ItP.grown (hI4.mono (N := fun b => w1.heap.size + 1 ≤ b ∧ b ≠ gn ∧ (Value.slice xl p cl).ownBlock ≠ some b) fun b h hb => ⟨by omega, fun e => ?_, fun e => by have := hold b e; omega⟩) hg5 (fun r e h => h.2.2 e)
              subst e
              rcases hgn with h1 | h1
              · have := hold _ h1; omega
              · omega
            · rw [List.getElem?_eq_none (by simp; omega)] at hv; cases hv
        have x0 := cell_of_row _ _ 0 _ _ _ hX5
        have x1 := cell_of_row _ _ 1 _ _ _ hX5
        have x2 := cell_of_row _ _ 2 _ _ _ hX5
        have e2 := frozen_of_row _ _ 2 _ _ hX5
        have hG : w5.grownBy (w5.setCell ⟨w1.heap.size, 2, none⟩ (.slice (some ⟨gn, 0, none⟩) (p + 1) cn)) (some w1.heap.size) := grown_set' (grown_refl w5 w1.heap.size) 2 _
        have hX6 : Blk (w5.setCell ⟨w1.heap.size, 2, none⟩ (.slice (some ⟨gn, 0, none⟩) (p + 1) cn)) w1.heap.size 25 #[.bool true, .slice none 0 0, .slice (some ⟨gn, 0, none⟩) (p + 1) cn] := heap_setCell_same w5 w1.heap.size 2 _ _ _ hX5
        have hown6 := hown5.kept hG (.inr (fun e => by have h' : gn = w1.heap.size := Option.some.inj e; have := hgl.1; omega))
        have hI6 : ∀ (i : Nat) u v, (ts1 ++ [t])[i]? = some u → (vs ++ [itW b3 x3 m3 c3 y3 n3 d3])[i]? = some v → ItP (fun b => w1.heap.size + 1 ≤ b ∧ (Value.slice (some ⟨gn, 0, none⟩) (p + 1) cn).ownBlock ≠ some b) _ u v := fun i u v hu hv => ((hIall i u v hu hv).grown hG (fun r e h => by cases e; omega)).mono (fun b h _ => ⟨h.1, fun e => h.2.1 (by injection e with e; exact e.symm)⟩)
        have hA6 := ((hA.keep hst4).kept hg5 (fun e => by have := hold _ e.symm; omega)).kept hG (fun e => by injection e; omega)
        have hb6 : Below w1.heap.size w1 (w5.setCell ⟨w1.heap.size, 2, none⟩ (.slice (some ⟨gn, 0, none⟩) (p + 1) cn)) := ((hbl.trans (hst4.mono hbl.size)).grown hg5 (by omega) (fun k e => by have := hold _ e; omega)).grown hG (by omega) (fun k e => by cases e; omega)
        have hR6 : RS = (itsR d r).map ((ts1 ++ [t]) ++ ·) := by
          rw [hR, hstep]
          cases itsR d r <;> simp
        have hd6 : body.drop (kk + mm) = r := by rw [← List.drop_drop, hrest, ← HMM.out, hrd]
        have hle6 : kk + mm ≤ n ∧ 1 ≤ mm := by have := HMM.out; omega
        have hIs6 : ∀ v ∈ vs ++ [itW b3 x3 m3 c3 y3 n3 d3], IsI v := fun v hv => by
          rcases List.mem_append.1 hv with h | h
          · exact hIs v h
          · rw [List.mem_singleton.1 h]; exact ⟨_, _, _, _, _, _, _, rfl⟩
        have hpk6 := hpk
        have HE := Lib.hid (And.intro hd6 (And.intro hR6 (And.intro hIs6 (And.intro hA6 (And.intro hX6 (And.intro hown6 (And.intro hI6 (And.intro hb6 (And.intro hp1 hp2)))))))))
        clear hd6 hR6 hIs6 hA6 hX6 hown6 hI6 hb6 hG hX5 hIall hgn hold hgl hR hp1 hp2 hIs hA hX hown hIt hbl hrest hrl hstep hrlt hrd hZ hown4 hX4 hI4 hst4 hs4 hs0 hs2 hs5 hown5 hg5 hat
        go_wp2_with fail
        refine ⟨⟨kk + mm, ts1 ++ [t], r, vs ++ [itW b3 x3 m3 c3 y3 n3 d3], some ⟨gn, 0, none⟩, p + 1, cn, rfl, hle6.1, HE.out.1, HE.out.2.1, ?_, ?_, HE.out.2.2.1, by omega, HE.out.2.2.2.1, HE.out.2.2.2.2.1, ?_, HE.out.2.2.2.2.2.2.1, HE.out.2.2.2.2.2.2.2.1⟩, by simp [intOf]; omega⟩
        · rw [List.length_append, HE.out.2.2.2.2.2.2.2.2.1]; rfl
        · rw [List.length_append, HE.out.2.2.2.2.2.2.2.2.2]; rfl
        · rw [List.flatMap_append]; exact HE.out.2.2.2.2.2.1
    · obtain rfl : kk = n := by omega
      have h0 : rest = [] := List.length_eq_zero_iff.1 (by omega)
      subst h0
      have hRt : RS = some ts1 := by rw [hR, itsR_nil]; simp
      have hG := grown_set' (grown_set' (grown_set' (grown_refl wr w.heap.size) 0 (.bool true)) 1 (.slice none 0 0)) 2 (.slice xl p cl)
      have hWr : Below w.heap.size w wr := bstep H1.out.1 hbl
      have hsz := hbl.size
      have hItem : ItP (fun b => w1.heap.size + 1 ≤ b) wr (.mk true [] ts1) (itW true none 0 0 xl p cl) :=
        ItP.mk true [] ts1 (.slice none 0 0) (.slice xl p cl) vs ⟨by simp, none, 0, rfl, by simp, by simp, fun h => (h rfl).elim⟩ (itsP_row hown hp2 hIs (by have := HLT.out; omega)) (by omega) (fun i t v a b => (hIt i t v a b).mono (fun b h _ => h.1)) (fun n c e => by cases e; rfl)
      have HE := Lib.hid (show ItP (fun b => w.heap.size ≤ b) _ (.mk true [] ts1) (itW true none 0 0 xl p cl) ∧ _ from ⟨(hItem.grown hG (fun r e h => by cases e; omega)).mono (fun b h _ => by omega), step_world hWr hG (Nat.le_refl _) (Nat.le_refl _)⟩)
      subst hRt
      clear hp1 hp2 hIs hA hX hown hIt hbl hrest hrl hItem hG hWr hsz
      go_wp2_with fail
      exact bodyPost_ret (v := .tuple #[itW true none 0 0 xl p cl, .int .i64 (kn : Nat), .bool true]) (by simp [results, Tryd.results38, go_sem, a0, a1, a2]) rfl ⟨HE.out.2, _, _, _, _, _, _, _, rfl, HE.out.1⟩
end Go.Proofs.YtjmfnafbjfceoaaDoor
