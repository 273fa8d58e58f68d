/- Texts laid into one: Qb. -/
import Derived.Test.YtjmfnafbjfceoaaDoorQa
import Derived.Laws.AppendOwnNone
import Derived.Test.YtjmfnafbjfceoaaDoorTg
import Derived.Stop.RegionWithIn
import Derived.Sort.LoopGhostIn
/- item: bytes as lists; heads of any length. -/
namespace Go.Proofs.YtjmfnafbjfceoaaDoor
open Go.RowKit

def bvs (l : List Nat) : List Value := l.map fun x => Value.int .u8 (x : Nat)
theorem bvs_len (l : List Nat) : (bvs l).length = l.length := by unfold bvs; simp
theorem bvs_app (l m : List Nat) : bvs l ++ bvs m = bvs (l ++ m) := by unfold bvs; simp
theorem bvs_get (l : List Nat) (k : Nat) : (bvs l)[k]? = (l[k]?).map fun x => Value.int .u8 (x : Nat) := by unfold bvs; simp
theorem bvs_one (l : List Nat) : ∀ u ∈ bvs l, u.oneCell' = true := fun u hu => by
  unfold bvs at hu
  simp only [List.mem_map] at hu
  obtain ⟨k, _, rfl⟩ := hu
  rfl
/-- A slice that reads as a list of bytes; its memory lies below B. -/
def Bt (B : Nat) (X : World) (v : Value) (l : List Nat) : Prop := (∀ x ∈ l, x < 256) ∧ ∃ x cap, v = .slice x l.length cap ∧ l.length ≤ cap ∧ cap ≤ 9223372036854775807 ∧ ((x = none ∧ l = [] ∧ cap = 0) ∨ ∃ b o, x = some ⟨b, o, none⟩ ∧ (l ≠ [] → b < B ∧ b < X.heap.size) ∧ ∀ k u, l[k]? = some u → X.cell? ⟨b, o + k, none⟩ = some (.int .u8 (u : Nat)))
theorem Bt.kept {B : Nat} {X Y : World} {v : Value} {l : List Nat} (h : Bt B X v l) (hs : X.heap.size ≤ Y.heap.size) (hk : ∀ b, b < B → b < X.heap.size → Y.heap[b]? = X.heap[b]?) : Bt B Y v l := by
  obtain ⟨h1, x, cap, h2, h3, h4, h5⟩ := h
  refine ⟨h1, x, cap, h2, h3, h4, ?_⟩
  rcases h5 with h5 | ⟨b, o, e, hb, hc⟩
  · exact .inl h5
  · refine .inr ⟨b, o, e, fun hl => ⟨(hb hl).1, Nat.lt_of_lt_of_le (hb hl).2 hs⟩, fun k u hu => ?_⟩
    have hl : l ≠ [] := fun e => by rw [e] at hu; simp at hu
    exact (cell_heap (p := ⟨b, o + k, none⟩) (hk b (hb hl).1 (hb hl).2)).trans (hc k u hu)
theorem Bt.new {B : Nat} {X Y : World} {v : Value} {l : List Nat} (h : Bt B X v l) (k : Below X.heap.size X Y) : Bt B Y v l := h.kept k.size fun b _ hx => k.block b hx
theorem Bt.mono {B C : Nat} {X : World} {v : Value} {l : List Nat} (h : Bt B X v l) (hB : B ≤ C) : Bt C X v l := by
  obtain ⟨h1, x, cap, h2, h3, h4, h5⟩ := h
  refine ⟨h1, x, cap, h2, h3, h4, ?_⟩
  rcases h5 with h5 | ⟨b, o, e, hb, hc⟩
  · exact .inl h5
  · exact .inr ⟨b, o, e, fun hl => ⟨Nat.lt_of_lt_of_le (hb hl).1 hB, (hb hl).2⟩, hc⟩
theorem Abide.bt {β : Type} {B q : Nat} (hB : B ≤ q) (v : Value) (l : List Nat) : Abide q (fun (_ : β) X => Bt B X v l) := fun _ X Y row hs hg hr =>
  Bt.kept hs hg.size fun b hb hx => hg.block b hx (fun e => by have := hr b e.symm; omega)
theorem Bt.below {B n : Nat} {X Y : World} {v : Value} {l : List Nat} (h : Bt B X v l) (hB : B ≤ n) (k : Below n X Y) : Bt B Y v l := h.kept k.size fun b hb _ => k.block b (by omega)
/-- An own row of bytes. -/
def Ow (X : World) (base : Nat) (v : Value) (l : List Nat) : Prop := (∀ x ∈ l, x < 256) ∧ X.ownsRow base 5 1 v l.length (bvs l)
theorem Ow.bt {X : World} {base : Nat} {v : Value} {l : List Nat} (h : Ow X base v l) : Bt X.heap.size X v l := by
  obtain ⟨hs, h⟩ := h
  have h0 := h
  refine ⟨hs, ?_⟩
  rcases h.2 with ⟨hv, hn⟩ | ⟨g, cap, cur, hv, hb, hg, hn, hc, _, _⟩
  · have hl : l = [] := List.eq_nil_of_length_eq_zero hn
    subst hl
    exact ⟨none, 0, hv, Nat.le_refl _, by omega, .inl ⟨rfl, rfl, rfl⟩⟩
  · have hlt := (Array.getElem?_eq_some_iff.1 hg).1
    refine ⟨some ⟨g, 0, none⟩, cap, hv, hn, by unfold maxLen at hc; omega, .inr ⟨g, 0, rfl, fun _ => ⟨hlt, hlt⟩, fun k u hu => ?_⟩⟩
    have h1 := h0.cells (g := g) (by rw [hv]; rfl) k (.int .u8 (u : Nat)) (by rw [bvs_get, hu]; rfl)
    rwa [Go.WideShapes.add_plain] at h1
theorem Ow.is {X : World} {base : Nat} {v : Value} {l : List Nat} (h : Ow X base v l) : ∃ x c, v = .slice x l.length c := by
  obtain ⟨_, x, c, e, _⟩ := h.bt
  exact ⟨x, c, e⟩
theorem Ow.kept {X Y : World} {base : Nat} {v : Value} {l : List Nat} {row : Option Nat} (h : Ow X base v l) (hg : X.grownBy Y row) (hne : ∀ r, row = some r → r < base) : Ow Y base v l := by
  refine ⟨h.1, h.2.kept hg ?_⟩
  cases hv : v.ownBlock with
  | none => exact .inl rfl
  | some k => exact .inr fun e => by have := (h.2.lt k hv).1; have := hne k e.symm; omega
theorem Ow.new {X Y : World} {base : Nat} {v : Value} {l : List Nat} (h : Ow X base v l) (k : Below X.heap.size X Y) : Ow Y base v l := h.kept (grown_new k) (fun _ e => by cases e)
theorem Ow.mono {X : World} {b c : Nat} {v : Value} {l : List Nat} (h : Ow X b v l) (hb : c ≤ b) : Ow X c v l := ⟨h.1, h.2.mono hb⟩
theorem Ow.nil (X : World) (base : Nat) : Ow X base (.slice none 0 0) [] := ⟨by simp, World.ownsRow_nil _ _ _ _⟩

/-- Bytes laid behind an own row of bytes. -/
theorem wpList_app {w : World} {ops : Array Oper} {rest : List Oper} {o : Oper} {a : Act} {Q : Exit → Act → World → Prop} (hgd : o.guard = none) (s x : Operand)
    (ho : o.op = .call { callee := .builtin .append, args := #[s, x], argTypes := #[22, 22] })
    (base : Nat) (l : List Nat) (hown : Ow w base (a.eval s) l) (B : Nat) (m : List Nat) (hx : Bt B w (a.eval x) m) (hn : l.length + m.length ≤ 1000000) (hb : base ≤ w.heap.size)
    (h : ∀ y c w', Ow w' base (.slice y (l ++ m).length c) (l ++ m) → w.grownBy w' (a.eval s).ownBlock → wpList Tryd.prog ops Q rest (a.put o.dst (.slice y (l ++ m).length c)) w') : wpList Tryd.prog ops Q (o :: rest) a w := by
  obtain ⟨i0, hi, hz0, hz1, hz2⟩ := info_parts' infoU8
  have hu : Tryd.prog.underlying 22 = some (.slice 5) := by kernel_rfl
  obtain ⟨hm, y, cap, he, h3, h4, h5⟩ := hx
  rcases h5 with ⟨rfl, rfl, rfl⟩ | ⟨b, q, rfl, hbb, hc⟩
  · refine wpList_append_own_none hgd s x 22 ho base 5 i0 1 hu hi _ _ _ rfl hown.2 he ?_
    obtain ⟨z, c, hv⟩ := hown.is
    have hE : l ++ ([] : List Nat) = l := by simp
    have h' := h z c w
    rw [hE, ← hv] at h'
    exact h' hown (World.grownBy.refl w _)
  · refine wpList_append_own _ hgd s x 22 ho base 5 i0 (.int .u8 0) 1 1 hu hi hz0 hz1 hz2 rfl (by decide) _ l.length (bvs l) rfl hown.2 ⟨b, q, none⟩ m.length cap (bvs m) he (by rw [bvs_len]; omega) ?_ (bvs_one m) (by unfold maxLen; omega) (by omega) hb ?_
    · intro j u hj
      rw [bvs_get] at hj
      cases hmj : m[j]? with
      | none => rw [hmj] at hj; cases hj
      | some v =>
        rw [hmj] at hj
        cases hj
        rw [Go.WideShapes.add_plain]
        exact hc j v hmj
    · intro v' w' ho' hg _
      have hO : Ow w' base v' (l ++ m) := ⟨fun z hz => (List.mem_append.1 hz).elim (hown.1 z) (hm z), by rw [← bvs_app, List.length_append]; exact ho'⟩
      obtain ⟨z, c, rfl⟩ := hO.is
      exact h z c w' hO hg

theorem wdG_zero (b : Nat → Nat) : ∀ m p, p ≤ m → (∀ j, p ≤ j → j < m → b j = 0) → wdG b m = wdG b p
  | 0, p, hp, _ => by obtain rfl : p = 0 := by omega
                      rfl
  | m + 1, p, hp, h => by
    by_cases e : p = m + 1
    · rw [e]
    · rw [wdG, if_pos (h m (by omega) (by omega))]
      exact wdG_zero b m p (by omega) fun j h1 h2 => h j h1 (by omega)
theorem wd_small (n : Nat) (h0 : 0 < n) (hn : n < 65536) : wdN n = if n < 256 then 1 else 2 := by
  have e2 : ∀ j, 2 ≤ j → byA n j = 0 := fun j hj => by
    unfold byA
    have : n / 256 ^ j = 0 := Nat.div_eq_of_lt (Nat.lt_of_lt_of_le hn (by calc 65536 = 256 ^ 2 := by decide
      _ ≤ 256 ^ j := Nat.pow_le_pow_right (by decide) hj))
    rw [this]
  unfold wdN
  rw [wdG_zero _ 32 2 (by omega) fun j h1 _ => e2 j h1]
  by_cases h : n < 256
  · rw [if_pos h, wdG, if_pos (by unfold byA; rw [show n / 256 ^ 1 = 0 from Nat.div_eq_of_lt (by omega)]), wdG, if_neg (by unfold byA; simp; omega)]
  · rw [if_neg h, wdG, if_neg (by unfold byA; simp; omega)]

/-- The head of so many bytes. -/
def heL (h n : Nat) : List Nat := if n ≤ 55 then [h + n] else (h + 55 + wdN n) :: (List.range (wdN n)).map fun p => byA n (wdN n - 1 - p)
theorem heL_eq (h n : Nat) (hn : n < 65536) : heL h n = if n ≤ 55 then [h + n] else if n < 256 then [h + 56, n] else [h + 57, n / 256, n % 256] := by
  unfold heL
  by_cases h1 : n ≤ 55
  · rw [if_pos h1, if_pos h1]
  · rw [if_neg h1, if_neg h1]
    by_cases h2 : n < 256
    · rw [if_pos h2, show wdN n = 1 by rw [wd_small n (by omega) hn, if_pos h2]]
      simp only [List.range_succ, List.range_zero, List.nil_append, List.map_cons, List.map_nil]
      rw [show byA n (1 - 1 - 0) = n by unfold byA; simp; omega]
    · rw [if_neg h2, show wdN n = 2 by rw [wd_small n (by omega) hn, if_neg h2]]
      simp only [List.range_succ, List.range_zero, List.nil_append, List.map_cons, List.map_nil, List.cons_append]
      rw [show byA n (2 - 1 - 0) = n / 256 by unfold byA; simp; omega, show byA n (2 - 1 - 1) = n % 256 by unfold byA; simp]
theorem heL_lt (h n : Nat) (hh : h ≤ 192) (hn : n < 65536) : ∀ x ∈ heL h n, x < 256 := fun x hx => by
  rw [heL_eq h n hn] at hx
  split at hx
  · simp at hx; omega
  · split at hx
    · simp at hx; omega
    · simp at hx; omega
theorem heL_len (h n : Nat) (hn : n < 65536) : (heL h n).length ≤ 3 := by
  rw [heL_eq h n hn]
  split
  · simp
  · split <;> simp
theorem hd_le (k : Nat) : hdN k ≤ 192 := by
  unfold hdN
  by_cases h1 : k = 0
  · rw [if_pos h1]; omega
  · rw [if_neg h1]
    by_cases h2 : k = 1
    · rw [if_pos h2]; omega
    · rw [if_neg h2]; omega
end Go.Proofs.YtjmfnafbjfceoaaDoor

/- item: heads of any length; laid of bytes. -/
namespace Go.Proofs.YtjmfnafbjfceoaaDoor
open Go.RowKit
attribute [local irreducible] lb wdG byA byC
theorem Ow.one {X : World} {base B : Nat} {x : Nat} (hx : x < 256) (hb : base ≤ B) (h : Blk X B 5 #[.int .u8 (x : Nat)]) : Ow X base (.slice (some ⟨B, 0, none⟩) 1 1) [x] :=
  ⟨by simpa using hx, rfl, .inr ⟨B, 1, _, rfl, hb, h, Nat.le_refl _, by unfold maxLen; omega, rfl, rfl⟩⟩

theorem field_bytes (v : Value) (w : World) : (Instr.field 25 (itB v) 1).run Tryd.prog w = .ok v w := by kernel_rfl
attribute [local go_sem] field_bytes
set_option maxRecDepth 100000 in
set_option maxHeartbeats 2000000 in
theorem head_long (k n : Nat) (hk : 1 ≤ k ∧ k < 3) (hn : 55 < n) (hn2 : n ≤ 4096) (w : World) (hH : HD w) :
    Calls Tryd.prog 50 #[.int .i64 k, .int .i64 n] w fun e w' => ∃ x m c, e = .returned (.slice x m c) ∧ Ow w' w.heap.size (.slice x m c) (heL (hdN k) n) ∧ Below w.heap.size w w' := by
  have g0 : ((k : Int) == 0) = false := by simp; omega
  have g1 : ¬ (n : Int) ≤ 55 := by omega
  have g2 : (k : Int) < 3 := by omega
  have g3 : 0 ≤ (k : Int) := by omega
  have w1 : IntKind.u64.wrap (n : Int) = (n : Int) := by rw [IntKind.wrap_u64]; omega
  have hwd := wd_small n (by omega) (by omega)
  have hm1 : 1 ≤ wdN n ∧ wdN n ≤ 2 := by rw [hwd]; split <;> omega
  clear hwd
  go_enter Tryd.func50, Tryd.ntmps50
  go_wp2_with fail
  refine (word_of_any n (by unfold B64; omega) _).mono ?_
  rintro e w2 ⟨rfl, h1⟩
  rename_i K hK
  refine hK _ _ ?_
  clear hK K
  refine wpList_plain rfl fun K hK => ?_
  go_simp
  refine (number_any n _).mono ?_
  rintro e w3 ⟨B, rfl, hB, hBw, h2⟩
  refine hK _ _ ?_
  clear hK K
  have hW := bstep h1 h2
  have c0 := hH.keep hW k (by omega)
  have hbs : Bt w3.heap.size w3 (nbV B (wdN n)) ((List.range (wdN n)).map fun p => byA n (wdN n - 1 - p)) := by
    refine ⟨fun x hx => ?_, some ⟨B, 32 - wdN n, none⟩, wdN n, ?_, by simp, by omega, .inr ⟨B, _, rfl, fun _ => ⟨hB.lt, hB.lt⟩, fun j u hu => ?_⟩⟩
    · simp only [List.mem_map] at hx
      obtain ⟨p, _, rfl⟩ := hx
      exact byA_lt _ _
    · unfold nbV; rw [if_neg (by omega)]; simp
    · rw [List.getElem?_map] at hu
      by_cases hj : j < wdN n
      · rw [List.getElem?_range hj] at hu
        cases hu
        rw [cell_of_row w3 B _ _ _ _ hB, byC_at n _ (by omega), show 31 - (32 - wdN n + j) = wdN n - 1 - j by omega]
      · rw [List.getElem?_eq_none (by simp; omega)] at hu; cases hu
  have hel : heL (hdN k) n = (hdN k + 55 + wdN n) :: (List.range (wdN n)).map fun p => byA n (wdN n - 1 - p) := by unfold heL; rw [if_neg (by omega)]
  have hHe := Lib.hid hel
  clear hel
  have hhd := hd_le k
  have hnb : nbV B (wdN n) = .slice (some ⟨B, 32 - wdN n, none⟩) (wdN n) (wdN n) := by unfold nbV; rw [if_neg (by omega)]
  obtain ⟨m, hm⟩ : ∃ m, wdN n = m := ⟨_, rfl⟩
  have hL : ((List.range (wdN n)).map fun p => byA n (wdN n - 1 - p)).length = wdN n := by simp
  generalize ((List.range (wdN n)).map fun p => byA n (wdN n - 1 - p)) = bl at hbs hHe hL
  rw [hnb] at hbs ⊢
  rw [hm] at hm1 hbs hHe hL ⊢
  generalize hkh : hdN k = h at c0 hHe hhd
  have HK := Lib.hid hkh
  clear hkh
  have w4 : IntKind.u8.wrap (m : Int) = (m : Int) := by rw [IntKind.wrap_u8]; omega
  have w5 : IntKind.u8.wrap ((h : Int) + 55) = (h : Int) + 55 := by rw [IntKind.wrap_u8]; omega
  have w6 : IntKind.u8.wrap ((h : Int) + 55 + (m : Int)) = ((h + 55 + m : Nat) : Int) := by rw [IntKind.wrap_u8]; omega
  have hO : Ow (w3.alloc (.cells #[.int .u8 ((h + 55 + m : Nat) : Int)] 5)) w.heap.size (.slice (some ⟨w3.heap.size, 0, none⟩) 1 1) [h + 55 + m] := Ow.one (by omega) hW.size (Blk.new _ _ _)
  have hb2 := hbs.new ((Below.refl w3.heap.size w3).alloc (Nat.le_refl _) (.cells #[.int .u8 ((h + 55 + m : Nat) : Int)] 5))
  have hHO := Lib.hid (And.intro hO (And.intro hb2 (And.intro hL hm)))
  have hHW := Lib.hid hW
  have hsz := hW.size
  clear hO hb2 hL hm hbs hnb hB hH hW h1 h2
  go_wp2_with (first
      | (at_builtin; refine wpList_app rfl _ _ rfl w.heap.size [h + 55 + m] hHO.out.1 w3.heap.size bl hHO.out.2.1 ?c1 ?c2 ?_)
      | fail)
  case c1 => have := hHO.out.2.2.1; simp; omega
  case c2 => rw [World.size_alloc]; omega
  intro y c w5' hO5 hg5
  have hgr : (w3.alloc (.cells #[.int .u8 ((h + 55 + m : Nat) : Int)] 5)).grownBy w5' (some w3.heap.size) := hg5
  have hW5 := step_world (balloc hHW.out (.cells #[.int .u8 ((h + 55 + m : Nat) : Int)] 5)) hgr (Nat.le_refl _) hsz
  have HX := Lib.hid (And.intro hO5 hW5)
  clear hO5 hW5 hgr hg5 hHO
  obtain ⟨q, hq⟩ : ∃ q, bl.length + 1 = q := ⟨_, rfl⟩
  rw [hq] at HX ⊢
  clear hq
  go_wp2_with fail
  go_ret
  exact ⟨_, _, _, rfl, by rw [HK.out, hHe.out]; exact HX.out.1, HX.out.2⟩

theorem head_any (k n : Nat) (hk : 1 ≤ k ∧ k < 3) (hn : n ≤ 4096) (w : World) (hH : HD w) :
    Calls Tryd.prog 50 #[.int .i64 k, .int .i64 n] w fun e w' => ∃ x m c, e = .returned (.slice x m c) ∧ Ow w' w.heap.size (.slice x m c) (heL (hdN k) n) ∧ Below w.heap.size w w' := by
  by_cases h : n ≤ 55
  · refine (head_short k n hk h w hH).mono ?_
    rintro e w' ⟨B, rfl, hB, hb, h1⟩
    have e : heL (hdN k) n = [hdN k + n] := by unfold heL; rw [if_pos h]
    rw [e]
    have := hd_le k
    exact ⟨_, _, _, rfl, Ow.one (by omega) hb hB, h1⟩
  · exact head_long k n hk (by omega) hn w hH
end Go.Proofs.YtjmfnafbjfceoaaDoor

/- item: laid of bytes, however many; Encode of them. -/
namespace Go.Proofs.YtjmfnafbjfceoaaDoor
open Go.RowKit
attribute [local irreducible] lb wdG byA byC heL
def koL (l : List Nat) : Nat := if l.length = 1 ∧ l.headD 0 < 128 then 0 else 1
def laB (l : List Nat) : List Nat := (if koL l = 0 then [] else heL 128 l.length) ++ l
theorem koL_le (l : List Nat) : koL l = 0 ∨ koL l = 1 := by unfold koL; split <;> simp

theorem kindOf_bytes (v : Value) (l : List Nat) (B : Nat) (w : World) (hv : Bt B w v l) (hH : HD w) :
    Calls Tryd.prog 51 #[itB v] w fun e w' => e = .returned (.int .i64 (koL l : Nat)) ∧ Below w.heap.size w w' := by
  obtain ⟨hs, x, cap, rfl, h1, h2, h3⟩ := hv
  by_cases hn : l.length = 1
  · obtain ⟨a, rfl⟩ := List.length_eq_one_iff.1 hn
    rcases h3 with ⟨_, h, _⟩ | ⟨b, o, rfl, hb, hc⟩
    · cases h
    · refine (kindOf_1 b o cap a w (hb (by simp)).2 (by have := hc 0 a rfl; simpa using this) hH).mono ?_
      rintro e w' ⟨rfl, h⟩
      refine ⟨?_, h⟩
      unfold koL
      by_cases ha : a < 128
      · rw [if_pos ha, if_pos ⟨rfl, ha⟩]; rfl
      · rw [if_neg ha, if_neg (fun h => ha h.2)]; rfl
  · refine (kindOf_not1 x l.length cap hn w).mono ?_
    rintro e w' ⟨rfl, h⟩
    refine ⟨?_, h⟩
    unfold koL
    rw [if_neg (fun h => hn h.1)]; rfl

/-- head of the kind of bytes. -/
theorem head_of (k n : Nat) (hk : k < 3) (hn : n ≤ 4096) (w : World) (hH : HD w) :
    Calls Tryd.prog 50 #[.int .i64 k, .int .i64 n] w fun e w' => ∃ x m c, e = .returned (.slice x m c) ∧ Ow w' w.heap.size (.slice x m c) (if k = 0 then [] else heL (hdN k) n) ∧ Below w.heap.size w w' := by
  by_cases h0 : k = 0
  · subst h0
    refine (head_alone n w).mono ?_
    rintro e w' ⟨rfl, h⟩
    exact ⟨_, _, _, rfl, by rw [if_pos rfl]; exact Ow.nil _ _, h⟩
  · refine (head_any k n (by omega) hn w hH).mono ?_
    rintro e w' ⟨x, m, c, rfl, hO, h⟩
    exact ⟨x, m, c, rfl, by rw [if_neg h0]; exact hO, h⟩

set_option maxRecDepth 100000 in
set_option maxHeartbeats 2000000 in
theorem laid_bytes (v : Value) (l : List Nat) (B : Nat) (w : World) (hv : Bt B w v l) (hl : l.length ≤ 4096) (hH : HD w) :
    Calls Tryd.prog 28 #[itB v] w fun e w' => ((laB l).length ≤ 4096 → ∃ y m d, e = .returned (.slice y m d) ∧ Ow w' w.heap.size (.slice y m d) (laB l) ∧ Below w.heap.size w w') ∧
      (4096 < (laB l).length → e = .panicked [{ v := .iface 28 (.int .i64 3), recovered := false }] ∧ Below w.heap.size w w') := by
  have hv0 := hv
  obtain ⟨hs, x, cap, rfl, _, _, _⟩ := hv0
  have hW := balloc (Below.refl w.heap.size w) (.cells #[.bool false, .slice x l.length cap, .slice none 0 0] 25)
  have g : ¬ (4096 : Int) < l.length := by omega
  have g' : (l.length : Int) ≤ 4096 := by omega
  have hko := koL_le l
  obtain ⟨hdl, hhd⟩ : ∃ hdl, (if koL l = 0 then [] else heL (hdN (koL l)) l.length) = hdl := ⟨_, rfl⟩
  have hlen : laB l = hdl ++ l := by
    rw [← hhd]; unfold laB
    rcases hko with h | h <;> rw [h] <;> rfl
  have hhl : hdl.length ≤ 3 := by
    rw [← hhd]
    split
    · simp
    · exact heL_len _ _ (by omega)
  have hB1 := hv.new hW
  have hk1 := Lib.hid (kindOf_bytes (.slice x l.length cap) l B _ hB1 (hH.keep hW))
  have HL := Lib.hid hlen
  have hho := fun w1 h => head_of (koL l) l.length (by omega) hl w1 h
  rw [hhd] at hho
  have HHO := Lib.hid hho
  clear hlen hhd hho
  go_enter Tryd.func28, Tryd.ntmps28
  go_wp2_with fail
  refine hk1.out.mono ?_
  rintro e w1 ⟨rfl, k1⟩
  rename_i K hK
  refine hK _ _ ?_
  clear hK K hk1
  have hW1 := bstep hW k1
  have hB2 := hB1.new k1
  have hho := Lib.hid (HHO.out w1 (hH.keep hW1))
  clear HHO
  have HX := Lib.hid (And.intro hW1 hB2)
  clear hW k1 hB1 hW1 hB2 hv
  obtain ⟨k, hk⟩ : ∃ k, koL l = k := ⟨_, rfl⟩
  rw [hk] at hho hko ⊢
  have HK := Lib.hid hk
  clear hk
  refine wpList_plain rfl fun K hK => ?_
  go_simp
  refine hK _ _ ?_
  clear hK K
  refine wpList_plain rfl fun K hK => ?_
  go_simp
  refine hK _ _ ?_
  clear hK K
  refine wpList_plain rfl fun K hK => ?_
  go_simp
  refine hho.out.mono ?_
  rintro e w2 ⟨x2, m2, c2, rfl, hO, k2⟩
  refine hK _ _ ?_
  clear hK K hho
  obtain ⟨hW1, hB2⟩ := HX.out
  have hW2 := bstep hW1 k2
  have hB3 := hB2.new k2
  have hs1 := hW1.size
  have hs2 := k2.size
  have HO := Lib.hid (And.intro hO (And.intro hB3 hW2))
  clear HX hO hB3 hW2 hW1 hB2 k2
  go_wp2_with (first
      | (at_builtin; refine wpList_app rfl _ _ rfl w1.heap.size _ HO.out.1 B l HO.out.2.1 ?c1 ?c2 ?_)
      | fail)
  case c1 => omega
  case c2 => exact hs2
  intro y c w3 hO3 hg3
  have hO4 := hO3.mono hs1
  have hW3 : Below w.heap.size w w3 := HO.out.2.2.grown hg3 (Nat.le_trans hs1 hs2) (fun k e => by have := (HO.out.1.2.lt k e).1; omega)
  have HF := Lib.hid (And.intro hO4 hW3)
  clear hO3 hg3 HO hO4 hW3
  rw [← HL.out] at HF
  have hn : (laB l).length = hdl.length + l.length := by rw [HL.out]; simp
  obtain ⟨n, hn2⟩ : ∃ n, hdl.length + l.length = n := ⟨_, rfl⟩
  try rw [hn] at HF
  rw [hn2] at hn HF ⊢
  have HN := Lib.hid hn
  clear hn hn2 HL HK
  by_cases h4 : n ≤ 4096
  · have g2 : (n : Int) ≤ 4096 := by omega
    go_wp2_with fail
    go_ret
    exact ⟨fun _ => ⟨_, _, _, rfl, HF.out⟩, fun h => by have := HN.out; omega⟩
  · have g2 : (4096 : Int) < n := by omega
    go_wp2_with fail
    exact ⟨rfl, fun h => by have := HN.out; omega, fun _ => ⟨rfl, HF.out.2⟩⟩
end Go.Proofs.YtjmfnafbjfceoaaDoor

/- A range over an iterator that writes blocks of a known set and new ones alone: what the body makes, stays. -/
namespace Go.Proofs.YtjmfnafbjfceoaaDoor
open Go.RowKit Go.Shelf

/-- What is said stays whatever becomes of the blocks in M. -/
def StayM {β : Type} (M : Nat → Prop) (J : β → World → Prop) : Prop := ∀ s X Y row, J s X → X.grownBy Y row → (∀ r, row = some r → M r) → J s Y
/-- The blocks in M are as they were. -/
def KeptM (M : Nat → Prop) (X Y : World) : Prop := X.heap.size ≤ Y.heap.size ∧ ∀ k, M k → k < X.heap.size → Y.heap[k]? = X.heap[k]?
theorem KeptM.refl (M : Nat → Prop) (X : World) : KeptM M X X := ⟨Nat.le_refl _, fun _ _ _ => rfl⟩
theorem KeptM.trans {M : Nat → Prop} {X Y Z : World} (h : KeptM M X Y) (k : KeptM M Y Z) : KeptM M X Z := ⟨Nat.le_trans h.1 k.1, fun i hB hi => (k.2 i hB (Nat.lt_of_lt_of_le hi h.1)).trans (h.2 i hB hi)⟩
theorem KeptM.mono {M N : Nat → Prop} {X Y : World} (h : KeptM M X Y) (hM : ∀ k, N k → M k) : KeptM N X Y := ⟨h.1, fun i hi hx => h.2 i (hM i hi) hx⟩
theorem KeptM.grown {M : Nat → Prop} {X Y : World} {row : Option Nat} (h : X.grownBy Y row) (hr : ∀ r, row = some r → ¬ M r) : KeptM M X Y := ⟨h.size, fun i hB hi => h.block i hi (fun e => hr i e.symm hB)⟩
theorem KeptM.new {M : Nat → Prop} {X Y : World} (h : Below X.heap.size X Y) : KeptM M X Y := ⟨h.size, fun i _ hi => h.block i hi⟩
theorem KeptM.alloc (M : Nat → Prop) (X : World) (o : Obj) : KeptM M X (X.alloc o) := KeptM.grown (grown_alloc X o) (fun _ e => by cases e)
theorem KeptM.put {M : Nat → Prop} (X : World) {l : Nat} (o : Obj) (hl : ¬ M l) : KeptM M X (X.putObj l o) := ⟨by simp, fun i hB _ => World.putObj_heap_other (fun e => hl (e ▸ hB))⟩
theorem StayM.new {β : Type} {M : Nat → Prop} {J : β → World → Prop} (h : StayM M J) {s : β} {X Y : World} (hs : J s X) (k : Below X.heap.size X Y) : J s Y := h s X _ none hs (grown_new k) (fun _ e => by cases e)
theorem StayM.alloc {β : Type} {M : Nat → Prop} {J : β → World → Prop} (h : StayM M J) {s : β} {X : World} (o : Obj) (hs : J s X) : J s (X.alloc o) := h s X _ none hs (grown_alloc X o) (fun _ e => by cases e)
theorem StayM.put {β : Type} {M : Nat → Prop} {J : β → World → Prop} (h : StayM M J) {s : β} {X : World} {l : Nat} (o : Obj) (hs : J s X) (hl : M l) : J s (X.putObj l o) := h s X _ (some l) hs (grownBy_putObj' X l o) (fun r e => by cases e; exact hl)
theorem StayM.mono {β : Type} {M N : Nat → Prop} {J : β → World → Prop} (h : StayM M J) (hN : ∀ k, N k → M k) : StayM N J := fun s X Y row hs hg hr => h s X Y row hs hg (fun r e => hN r (hr r e))
theorem StayM.and {β : Type} {M : Nat → Prop} {J K : β → World → Prop} (h : StayM M J) (k : StayM M K) : StayM M (fun s X => J s X ∧ K s X) := fun s X Y row hs hg hr => ⟨h s X Y row hs.1 hg hr, k s X Y row hs.2 hg hr⟩
theorem StayM.pure {β : Type} (M : Nat → Prop) (p : β → Prop) : StayM M (fun s (_ : World) => p s) := fun _ _ _ _ hs _ _ => hs
theorem StayM.blk {β : Type} {M : Nat → Prop} {g : Nat} (hg : ¬ M g) (t : TypeId) (f : β → Array Value) : StayM M (fun s X => Blk X g t (f s)) := fun _ _ _ _ hs hw hr => hs.kept hw (fun e => hg (hr g e.symm))
theorem StayM.heap {β : Type} {M : Nat → Prop} {g : Nat} (hg : ¬ M g) (o : β → Obj) : StayM M (fun s X => X.heap[g]? = some (o s)) := fun _ _ _ _ hs hw hr => (hw.block g (Array.getElem?_eq_some_iff.1 hs).1 (fun e => hg (hr g e.symm))).trans hs
theorem StayM.ex {β γ : Type} {M : Nat → Prop} {J : γ → β → World → Prop} (h : ∀ c, StayM M (J c)) : StayM M (fun s X => ∃ c, J c s X) := fun s X Y row ⟨c, hs⟩ hg hr => ⟨c, h c s X Y row hs hg hr⟩
theorem StayM.below {β : Type} {M : Nat → Prop} {n₀ : Nat} {w : World} (hn : n₀ ≤ w.heap.size) (hM : ∀ k, M k → n₀ ≤ k) : StayM M (fun (_ : β) X => Below n₀ w X) := fun _ _ _ _ hs hw hr => hs.grown hw (Nat.le_trans hn hs.size) (fun k e => hM k (hr k e))
theorem StayM.size {β : Type} {M : Nat → Prop} (n : Nat) : StayM M (fun (_ : β) X => n ≤ X.heap.size) := fun _ _ _ _ hs hw _ => Nat.le_trans hs hw.size

/-- What an iterator owes that writes blocks in M and new ones alone; Gd: what the caller is told of what comes next. -/
def SeqM {α : Type} (n : Nat) (P : Program) (g : Nat) (lb : Array Value) (encs : α → Array Value) (n₀ : Nat) (M : Nat → Prop) (Gd : List α → α → Prop) (S Sp : List α → Prop) (w : World) : Prop :=
  ∀ (l : Nat) (J Jx : List α → World → Prop) (W : World), Below w.heap.size w W → StayM M J → StayM M Jx →
    (∀ pre x X, Gd pre x → J pre X → YieldAt Fence.wide 0 P l (encs x) X fun e Y => (e = .returned (.bool true) ∧ J (pre ++ [x]) Y ∧ KeptM M X Y ∧ Below n₀ X Y) ∨ (e = .returned (.bool false) ∧ Jx (pre ++ [x]) Y ∧ KeptM M X Y)) →
    J [] W →
    CallsIn Fence.wide n P g (#[.func (.yield l) #[] #[]] ++ lb) W fun e Y => (∃ v, e = .returned v) ∧ ((∃ xs, S xs ∧ J xs Y) ∨ (∃ pre, Sp pre ∧ Jx pre Y))

/-- How a round's body may end. -/
def postM {α : Type} (M : Nat → Prop) (n₀ : Nat) (I : List α → World → Prop) (Ix : Code → List α → World → Prop) (xs : List α) (X : World) : Exit → Act → World → Prop
  | .normal, _, Y => KeptM M X Y ∧ Below n₀ X Y ∧ I xs Y
  | .ret, _, Y => KeptM M X Y ∧ Ix .ret xs Y
  | .exit id, _, Y => KeptM M X Y ∧ Ix (.exit id) xs Y
  | .goto t, _, Y => KeptM M X Y ∧ Ix (.goto t) xs Y
  | .panic _, _, _ => False
  | .outgrown, _, _ => False

theorem wpIn_rangeM {P : Program} {α : Type} {n : Nat} {g : Operand} {ps : Array Tmp} {assign body : Code} {Q : Exit → Act → World → Prop} {a : Act} {w : World}
    (h1 : 1 ≤ n) {gf : Nat} {lb : Array Value} (hg : a.eval g = .func (.func gf) #[] lb) (eg : ∀ args w, (callFunc gf args).run P w = .ok (.enter gf args) w)
    {encs : α → Array Value} {n₀ : Nat} {M : Nat → Prop} {Gd : List α → α → Prop} {S Sp : List α → Prop} {w0 : World} (hseq : SeqM (n - 1) P gf lb encs n₀ M Gd S Sp w0) (hb0 : Below w0.heap.size w0 w) (hn₀ : n₀ ≤ w.heap.size) (hM : ∀ k, M k → k < w.heap.size) (hps : ∀ x, (encs x).size = ps.size)
    (I : List α → World → Prop) (Ix : Code → List α → World → Prop) (hI : StayM (fun k => M k ∨ k = w.heap.size ∨ k = w.heap.size + 1) I) (hIx : ∀ c, StayM (fun k => M k ∨ k = w.heap.size ∨ k = w.heap.size + 1) (Ix c)) (h0 : I [] w)
    (Ax : α → Act → World → Prop) (hAx : ∀ x a', StayM (fun k => k = w.heap.size + 1) (fun (_ : Unit) X => Ax x a' X))
    (hassign : ∀ (l : Nat) (pre : List α) (x : α) (X : World) (K : Act → World → Prop), Gd pre x → w.heap.size + 1 < X.heap.size → I pre X → (∀ a' Y, KeptM (fun k => M k ∨ k = w.heap.size ∨ k = w.heap.size + 1) X Y → Below n₀ X Y → I pre Y → Ax x a' Y → K a' Y) →
      assign.wpIn (Fence.wide.inRound l) (n - 1 - 1) P (Exit.then K (fun _ _ _ => False)) { tmps := (ps.zip (encs x)).foldl (fun t (p, v) => t.setIfInBounds p v) a.tmps, defers := [] } X)
    (hbody : ∀ (l : Nat) (pre : List α) (x : α) (a' : Act) (X : World), l = w.heap.size + 1 → Gd pre x → (∃ r, X.heap[l]? = some (.loop r)) → I pre X → Ax x a' X → body.wpIn (Fence.wide.inRound l) (n - 1 - 1) P (postM (fun k => M k ∨ k = w.heap.size ∨ k = w.heap.size + 1) n₀ I Ix (pre ++ [x]) X) a' X)
    (hdone : ∀ (D : Nat) (xs : List α) (X : World), D = w.heap.size → S xs → I xs X → X.heap[D]? = some (.deferred (some [])) → Q .normal { a with defers := { target := .collected D, args := #[] } :: a.defers } X)
    (hstop : ∀ (D : Nat) (c : Code) (pre : List α) (X : World), D = w.heap.size → Sp pre → Ix c pre X → X.heap[D]? = some (.deferred (some [])) → c.wpIn Fence.wide n P Q { a with defers := { target := .collected D, args := #[] } :: a.defers } X) :
    (Code.rangeFunc g ps assign body).wpIn Fence.wide n P Q a w := by
  refine wpIn_rangeFunc (fun fn hfn => ?_)
  have hro : Fence.wide.round = none := rfl
  rw [hro]
  let R : LoopState → Option Code → Loop := fun st pe => { state := st, pending := pe, fn, tmps := a.tmps, params := ps, assign, body, defers := w.heap.size }
  obtain ⟨V, hV⟩ : ∃ V, (w.alloc (.deferred (some []))).alloc (.loop (R .ready none)) = V := ⟨_, rfl⟩
  have hVs : V.heap.size = w.heap.size + 2 := by rw [← hV]; simp
  have hwV : Below w.heap.size w V := by rw [← hV]; exact ((Below.refl _ w).alloc (Nat.le_refl _) _).alloc (by simp) _
  have hVl : V.heap[w.heap.size + 1]? = some (.loop (R .ready none)) := by
    rw [← hV]; have := World.alloc_heap_new (w.alloc (.deferred (some []))) (.loop (R .ready none)); rwa [World.size_alloc] at this
  have hVd : V.heap[w.heap.size]? = some (.deferred (some [])) := by
    rw [← hV]; exact (Below.heap_alloc _ _ _ (by simp)).trans (World.alloc_heap_new w _)
  have hVI : I [] V := hI.new h0 hwV
  refine ⟨w.heap.size + 1, [{ target := .collected w.heap.size, args := #[] }], V, { target := .fn (.func gf) lb, args := #[.func (.yield (w.heap.size + 1)) #[] #[]] }, V, gf, #[.func (.yield (w.heap.size + 1)) #[] #[]] ++ lb, V, ?_, ?_, fun _ _ => trivial, ?_, fun _ => h1, ?_⟩
  · rw [← hV]; exact run_enterLoop_outer _ _ _ _ _
  · simp only [resolve, hg]; simp [go_sem]
  · simp [invoke, go_sem, eg]
  refine (hseq (w.heap.size + 1)
    (fun pre X => (I pre X ∧ X.heap[w.heap.size + 1]? = some (.loop (R .ready none))) ∧ X.heap[w.heap.size]? = some (.deferred (some [])))
    (fun pre X => ∃ c, (Ix c pre X ∧ X.heap[w.heap.size + 1]? = some (.loop (R .done (some c)))) ∧ X.heap[w.heap.size]? = some (.deferred (some [])))
    V (hb0.trans (hwV.mono hb0.size))
    (((hI.mono (fun k h => .inl h)).and (StayM.heap (fun h => by have := hM _ h; omega) (fun _ => _))).and (StayM.heap (fun h => by have := hM _ h; omega) (fun _ => _)))
    (StayM.ex fun c => (((hIx c).mono (fun k h => .inl h)).and (StayM.heap (fun h => by have := hM _ h; omega) (fun _ => _))).and (StayM.heap (fun h => by have := hM _ h; omega) (fun _ => _)))
    ?_ ⟨⟨hVI, hVl⟩, hVd⟩).mono ?_
  · rintro pre x X hgd ⟨⟨hi, hl⟩, hk⟩
    have hll : w.heap.size + 1 < X.heap.size := (Array.getElem?_eq_some_iff.1 hl).1
    refine ⟨fn, _, assign, body, run_yield hl (hps x), ?_⟩
    refine RoundIn.mono (R := _) ?_ (fun _ _ h => h)
    suffices h : RoundIn Fence.wide (n - 1 - 1) P (w.heap.size + 1) fn ((ps.zip (encs x)).foldl (fun t (p, v) => t.setIfInBounds p v) a.tmps) assign body X _ from ⟨h.1, fun c cs _ => h.2 c cs (room_of_none rfl _)⟩
    refine roundIn_of_wpIn hfn (hassign _ pre x X _ hgd hll hi (fun a' Y hkY hbY hiY hax => ?_))
    have hlY : Y.heap[w.heap.size + 1]? = some (.loop (R .ready none)) := (hkY.2 _ (.inr (.inr rfl)) hll).trans hl
    have hkY2 : Y.heap[w.heap.size]? = some (.deferred (some [])) := (hkY.2 _ (.inr (.inl rfl)) (by omega)).trans hk
    refine ⟨_, run_beginRound hlY rfl, ?_⟩
    have hYl : w.heap.size + 1 < Y.heap.size := Nat.lt_of_lt_of_le hll hkY.1
    obtain ⟨Z, hZ⟩ : ∃ Z, Y.putObj (w.heap.size + 1) (.loop (R .busy none)) = Z := ⟨_, rfl⟩
    have hZ' : Y.putObj (w.heap.size + 1) (.loop { R .ready none with state := .busy }) = Z := hZ
    rw [hZ']
    have hZl : Z.heap[w.heap.size + 1]? = some (.loop (R .busy none)) := by rw [← hZ]; exact World.putObj_heap_same hYl
    have hZd : Z.heap[w.heap.size]? = some (.deferred (some [])) := by rw [← hZ]; exact (World.putObj_heap_other (by omega)).trans hkY2
    have hZI : I pre Z := by rw [← hZ]; exact hI.put _ hiY (.inr (.inr rfl))
    have hZA : Ax x a' Z := by rw [← hZ]; exact (hAx x a').put (s := ()) _ hax rfl
    have hZb : Below n₀ Y Z := by rw [← hZ]; exact below_put Y _ (by omega)
    have hZk : KeptM M Y Z := by rw [← hZ]; exact KeptM.put Y _ (fun h => by have := hM _ h; omega)
    have hZs : Z.heap.size = Y.heap.size := by rw [← hZ]; simp
    have fin : ∀ (jump : Option Code) (T : World), KeptM (fun k => M k ∨ k = w.heap.size ∨ k = w.heap.size + 1) Z T → ∃ U, (Instr.endRound (w.heap.size + 1) jump).run P T = .ok (.bool jump.isNone) U ∧ U = T.putObj (w.heap.size + 1) (.loop (R (if jump.isNone then .ready else .done) jump)) ∧
        U.heap[w.heap.size + 1]? = some (.loop (R (if jump.isNone then .ready else .done) jump)) ∧ U.heap[w.heap.size]? = some (.deferred (some [])) := fun jump T hT => by
      have hTl : T.heap[w.heap.size + 1]? = some (.loop (R .busy none)) := (hT.2 _ (.inr (.inr rfl)) (by omega)).trans hZl
      have hTd : T.heap[w.heap.size]? = some (.deferred (some [])) := (hT.2 _ (.inr (.inl rfl)) (by omega)).trans hZd
      refine ⟨_, run_endRound jump hTl, rfl, World.putObj_heap_same (Array.getElem?_eq_some_iff.1 hTl).1, (World.putObj_heap_other (by omega)).trans hTd⟩
    refine wpIn_mono (hbody _ pre x a' Z rfl hgd ⟨_, hZl⟩ hZI hZA) ?_
    rintro e a3 T hp
    cases e with
    | normal =>
      obtain ⟨hkT, hbT, hiT⟩ := hp
      obtain ⟨U, hr, hU, hUl, hUd⟩ := fin none T hkT
      refine ⟨_, _, hr, .inl ⟨rfl, ⟨⟨by rw [hU]; exact hI.put _ hiT (.inr (.inr rfl)), hUl⟩, hUd⟩, ?_, ?_⟩⟩
      · exact (hkY.mono (fun k h => .inl h)).trans (hZk.trans ((hkT.mono (fun k h => .inl h)).trans (by rw [hU]; exact KeptM.put T _ (fun h => by have := hM _ h; omega))))
      · exact hbY.trans (hZb.trans (hbT.trans (by rw [hU]; exact below_put T _ (by omega))))
    | ret =>
      obtain ⟨U, hr, hU, hUl, hUd⟩ := fin (some .ret) T hp.1
      exact ⟨_, _, hr, .inr ⟨rfl, ⟨.ret, ⟨by rw [hU]; exact (hIx _).put _ hp.2 (.inr (.inr rfl)), hUl⟩, hUd⟩, (hkY.mono (fun k h => .inl h)).trans (hZk.trans ((hp.1.mono (fun k h => .inl h)).trans (by rw [hU]; exact KeptM.put T _ (fun h => by have := hM _ h; omega))))⟩⟩
    | exit id =>
      obtain ⟨U, hr, hU, hUl, hUd⟩ := fin (some (.exit id)) T hp.1
      exact ⟨_, _, hr, .inr ⟨rfl, ⟨.exit id, ⟨by rw [hU]; exact (hIx _).put _ hp.2 (.inr (.inr rfl)), hUl⟩, hUd⟩, (hkY.mono (fun k h => .inl h)).trans (hZk.trans ((hp.1.mono (fun k h => .inl h)).trans (by rw [hU]; exact KeptM.put T _ (fun h => by have := hM _ h; omega))))⟩⟩
    | goto t =>
      obtain ⟨U, hr, hU, hUl, hUd⟩ := fin (some (.goto t)) T hp.1
      exact ⟨_, _, hr, .inr ⟨rfl, ⟨.goto t, ⟨by rw [hU]; exact (hIx _).put _ hp.2 (.inr (.inr rfl)), hUl⟩, hUd⟩, (hkY.mono (fun k h => .inl h)).trans (hZk.trans ((hp.1.mono (fun k h => .inl h)).trans (by rw [hU]; exact KeptM.put T _ (fun h => by have := hM _ h; omega))))⟩⟩
    | panic ch => exact hp.elim
    | outgrown => exact hp.elim
  · rintro e X ⟨⟨v, rfl⟩, (⟨xs, hS, ⟨hi, hl⟩, hk⟩ | ⟨pre, hSp, c, ⟨hi, hl⟩, hk⟩)⟩
    · exact ⟨none, _, run_endLoop hl (by simp [R]), hdone _ xs _ rfl hS (hI.put _ hi (.inr (.inr rfl))) ((World.putObj_heap_other (by omega)).trans hk)⟩
    · exact ⟨some c, _, run_endLoop hl (by simp [R]), hstop _ c pre _ rfl hSp ((hIx c).put _ hi (.inr (.inr rfl))) ((World.putObj_heap_other (by omega)).trans hk)⟩
end Go.Proofs.YtjmfnafbjfceoaaDoor

/- item: slices of items; the iterator over them. -/
namespace Go.Proofs.YtjmfnafbjfceoaaDoor
open Go.RowKit Go.Shelf
attribute [local irreducible] lb wdG byA byC heL
/-- An item's value: three cells. -/
def ItV (v : Value) : Prop := ∃ c x n d y m e, v = .agg #[.bool c, .slice x n d, .slice y m e]
/-- A slice of items lies in a block below B. -/
def Its (B : Nat) (X : World) (iv : Value) (vs : List Value) : Prop := ∃ x cap, iv = .slice x vs.length cap ∧ vs.length ≤ cap ∧ cap ≤ 9223372036854775807 ∧ (vs ≠ [] → ∃ b o, x = some ⟨b, o, none⟩ ∧ b < B ∧ b < X.heap.size ∧
  ∀ i v, vs[i]? = some v → ∃ c1 x1 n1 d1 y1 m1 e1, v = .agg #[.bool c1, .slice x1 n1 d1, .slice y1 m1 e1] ∧ X.cell? ⟨b, o + i * 3, none⟩ = some (.bool c1) ∧ X.cell? ⟨b, o + i * 3 + 1, none⟩ = some (.slice x1 n1 d1) ∧ X.cell? ⟨b, o + i * 3 + 2, none⟩ = some (.slice y1 m1 e1))
theorem Its.kept {B : Nat} {X Y : World} {iv : Value} {vs : List Value} (h : Its B X iv vs) (hs : X.heap.size ≤ Y.heap.size) (hk : ∀ b, b < B → b < X.heap.size → Y.heap[b]? = X.heap[b]?) : Its B Y iv vs := by
  obtain ⟨x, cap, h2, h3, h4, h5⟩ := h
  refine ⟨x, cap, h2, h3, h4, fun hv => ?_⟩
  obtain ⟨b, o, e, hb, hbx, hc⟩ := h5 hv
  refine ⟨b, o, e, hb, Nat.lt_of_lt_of_le hbx hs, fun i v hi => ?_⟩
  obtain ⟨c1, x1, n1, d1, y1, m1, e1, e, k0, k1, k2⟩ := hc i v hi
  have hh := hk b hb hbx
  exact ⟨c1, x1, n1, d1, y1, m1, e1, e, (cell_heap (p := ⟨b, _, none⟩) hh).trans k0, (cell_heap (p := ⟨b, _, none⟩) hh).trans k1, (cell_heap (p := ⟨b, _, none⟩) hh).trans k2⟩
theorem Its.new {B : Nat} {X Y : World} {iv : Value} {vs : List Value} (h : Its B X iv vs) (k : Below X.heap.size X Y) : Its B Y iv vs := h.kept k.size fun b _ hx => k.block b hx
theorem Its.below {B n : Nat} {X Y : World} {iv : Value} {vs : List Value} (h : Its B X iv vs) (hB : B ≤ n) (k : Below n X Y) : Its B Y iv vs := h.kept k.size fun b hb _ => k.block b (by omega)
theorem Its.mono {B C : Nat} {X : World} {iv : Value} {vs : List Value} (h : Its B X iv vs) (hB : B ≤ C) : Its C X iv vs := by
  obtain ⟨x, cap, h2, h3, h4, h5⟩ := h
  exact ⟨x, cap, h2, h3, h4, fun hv => by obtain ⟨b, o, e, hb, hc⟩ := h5 hv; exact ⟨b, o, e, Nat.lt_of_lt_of_le hb hB, hc⟩⟩

set_option maxRecDepth 100000 in
set_option maxHeartbeats 2000000 in
theorem values_any (x : Option Addr) (m c : Nat) (w : World) :
    Calls Tryd.prog 69 #[.slice x m c] w fun e w' => e = .returned (.func (.func 83) #[] #[.pointer (some ⟨w.heap.size, 0, none⟩)]) ∧ w' = w.alloc (.cells #[.slice x m c] 23) := by
  have hmf : ∀ (fn : Fn) (first cap : Array Value) (w : World), (Instr.makeFunc fn first cap).run Tryd.prog w = .ok (.func fn first cap) w := fun _ _ _ _ => rfl
  go_enter Tryd.func69, Tryd.ntmps69
  go_wp2_with fail
  go_ret
  exact ⟨rfl, rfl⟩

set_option maxRecDepth 100000 in
set_option maxHeartbeats 4000000 in
theorem values1_in (n : Nat) (hn : 1 ≤ n) (l V n₀ B : Nat) (iv : Value) (vs : List Value) (J Jx : List Nat → World → Prop) (w : World) (hn₀ : n₀ ≤ w.heap.size) (hB : B ≤ n₀) (hvl : vs.length ≤ 1000000)
    (hV : Blk w V 23 #[iv]) (hI : Its B w iv vs) (hJ : ∀ s X (o : Obj), J s X → J s (X.alloc o))
    (hY : ∀ pre (x : Nat) X, (pre = List.range x ∧ x < vs.length) → J pre X → YieldAt Fence.wide 0 Tryd.prog l #[vs.getD x undef] X fun e Y => (e = .returned (.bool true) ∧ J (pre ++ [x]) Y ∧ X.heap.size ≤ Y.heap.size ∧ Below n₀ X Y) ∨ (e = .returned (.bool false) ∧ Jx (pre ++ [x]) Y))
    (h0 : J [] w) :
    CallsIn Fence.wide n Tryd.prog 83 #[.func (.yield l) #[] #[], .pointer (some ⟨V, 0, none⟩)] w fun e Y => (∃ v, e = .returned v) ∧
      ((∃ xs, xs = List.range vs.length ∧ J xs Y) ∨ (∃ pre, (∃ k, pre = List.range (k + 1)) ∧ Jx pre Y)) := by
  refine callsIn_of_wp Tryd.func83 rfl trivial ?_ rfl
  simp only [Tryd.ntmps83, List.size_toArray, List.length_cons, List.length_nil, Nat.reduceAdd, Nat.reduceSub, Array.replicate_succ, Array.replicate_zero, List.push_toArray, List.append_toArray, List.nil_append, List.cons_append]
  obtain ⟨x, cap, rfl, hc1, hc2, hI⟩ := hI
  have cV : w.cell? ⟨V, 0, none⟩ = some (.slice x vs.length cap) := cell_of_row w _ 0 _ _ _ hV
  have HI := Lib.hid hI
  have HY := Lib.hid hY
  obtain ⟨N, hN⟩ : ∃ N, vs.length = N := ⟨_, rfl⟩
  rw [hN] at cV hc1 hvl
  have HN := Lib.hid hN
  clear hI hY hN hV
  gi_wp2_with fail
  gi_loopw [7] (fun i wr => ∃ k : Nat, i = .int .i64 (k : Int) ∧ k ≤ N ∧ J (List.range k) wr ∧ w.heap.size ≤ wr.heap.size ∧ Below n₀ w wr) (fun i _ => N - (intOf i).toNat)
  case atStart => exact ⟨0, rfl, by omega, h0, Nat.le_refl _, Below.refl _ _⟩
  case round =>
    clear h0
    obtain ⟨k, rfl, hk, hj, hkp, hbl⟩ := hrel
    by_cases hlt : k < N
    · have hkI : (k : Int) < (N : Int) := by omega
      have hk0 : ¬ (k : Int) < 0 := by omega
      obtain ⟨v, hv⟩ : ∃ v, vs[k]? = some v := ⟨vs[k]'(by rw [HN.out]; exact hlt), by simp [HN.out, hlt]⟩
      obtain ⟨b, o, rfl, hb, hbx, hc⟩ := HI.out (fun e => by rw [e] at hv; simp at hv)
      obtain ⟨c1, x1, n1, d1, y1, m1, e1, hve, k0, k1, k2⟩ := hc k v hv
      have hb0 : b < n₀ := by omega
      have k0 := (hbl.cell (p := ⟨b, o + k * 3, none⟩) hb0).trans k0
      have k1 := (hbl.cell (p := ⟨b, o + k * 3 + 1, none⟩) hb0).trans k1
      have k2 := (hbl.cell (p := ⟨b, o + k * 3 + 2, none⟩) hb0).trans k2
      have g1 : IntKind.i64.wrap ((k : Int) + 1) = (k : Int) + 1 := IntWalk.i64_in _ (by omega)
      have hj2 := hJ _ _ (.cells #[.bool c1, .slice x1 n1 d1, .slice y1 m1 e1] 25) hj
      have hyy := HY.out (List.range k) k _ ⟨rfl, by rw [HN.out]; exact hlt⟩ hj2
      rw [List.getD_eq_getElem?_getD, hv, Option.getD_some, hve] at hyy
      obtain ⟨fn, tmps, assign, body, hy, hR⟩ := YieldAt.wide (m' := n - 1) hyy
      have HK := Lib.hid (And.intro hkp hbl)
      clear hj hj2 hyy hc hv hve hkp hbl hbx hb hb0
      gi_wp2_with fail
      refine hR.mono ?_
      clear hR hy k0 k1 k2
      rintro e Y (⟨rfl, hj, hkp, hbl⟩ | ⟨rfl, hjx⟩)
      · have hkp2 : w.heap.size ≤ Y.heap.size := Nat.le_trans HK.out.1 (Nat.le_trans (by simp) hkp)
        have hbl2 := HK.out.2.trans (((Below.refl n₀ wr).alloc (Nat.le_trans hn₀ HK.out.1) (.cells #[.bool c1, .slice x1 n1 d1, .slice y1 m1 e1] 25)).trans hbl)
        have HF := Lib.hid (And.intro hj (And.intro hkp2 hbl2))
        clear hj hkp hbl hkp2 hbl2 HK
        gi_wp2_with fail
        exact ⟨⟨k + 1, by go_num, by omega, by rw [List.range_succ]; exact HF.out.1, HF.out.2⟩, by simp [intOf]; omega⟩
      · have HF := Lib.hid hjx
        clear hjx HK
        gi_wp2_with fail
        exact bodyPost_ret (v := .tuple #[]) (results_none rfl _ _ _) rfl ⟨⟨_, rfl⟩, .inr ⟨_, ⟨k, rfl⟩, by rw [List.range_succ]; exact HF.out⟩⟩
    · obtain rfl : k = N := by omega
      have HK := Lib.hid (And.intro hj hkp)
      clear hj hkp hbl
      gi_wp2_with fail
      go_end0
      exact ⟨⟨_, rfl⟩, .inl ⟨_, by rw [HN.out], HK.out.1⟩⟩
/-- The iterator over a slice of items. -/
theorem values_seq (n n₀ V B : Nat) (iv : Value) (vs : List Value) (hn : 1 ≤ n) (w : World) (hn₀ : n₀ ≤ w.heap.size) (hB : B ≤ n₀) (hvl : vs.length ≤ 1000000) (hV : Blk w V 23 #[iv]) (hI : Its B w iv vs) :
    SeqM n Tryd.prog 83 #[.pointer (some ⟨V, 0, none⟩)] (fun x : Nat => #[vs.getD x undef]) n₀ (fun _ => False) (fun pre x => pre = List.range x ∧ x < vs.length) (fun xs => xs = List.range vs.length) (fun pre => ∃ k, pre = List.range (k + 1)) w := fun l J Jx W hW hJ _ hY h0 =>
  values1_in n hn l V n₀ B iv vs J Jx W (Nat.le_trans hn₀ hW.size) hB hvl (hV.keep hW) (hI.new hW) (fun _ _ o h => hJ.alloc o h) (fun pre x X hg hj => by
    obtain ⟨fn, tmps, assign, body, hy, hR⟩ := hY pre x X hg hj
    exact ⟨fn, tmps, assign, body, hy, hR.mono fun e Y h => h.elim (fun h => .inl ⟨h.1, h.2.1, h.2.2.1.1, h.2.2.2⟩) (fun h => .inr ⟨h.1, h.2.1⟩)⟩) h0
end Go.Proofs.YtjmfnafbjfceoaaDoor

/- item: joined's closure: an item's bytes, added to the total. -/
namespace Go.Proofs.YtjmfnafbjfceoaaDoor
open Go.RowKit Go.Shelf
attribute [local irreducible] lb wdG byA byC heL
set_option maxRecDepth 100000 in
set_option maxHeartbeats 2000000 in
theorem joined1_any (T t : Nat) (ys : List Nat) (c1 : Bool) (x1 : Option Addr) (n1 d1 : Nat) (y1 : Option Addr) (m1 e1 : Nat) (w : World) (hT : Blk w T 3 #[.int .i64 (t : Nat)]) (ht : t + ys.length ≤ 4096)
    (hL : ∀ X, Below w.heap.size w X → Calls Tryd.prog 28 #[.agg #[.bool c1, .slice x1 n1 d1, .slice y1 m1 e1]] X fun e w' => ∃ y m d, e = .returned (.slice y m d) ∧ Ow w' X.heap.size (.slice y m d) ys ∧ Below X.heap.size X w') :
    Calls Tryd.prog 70 #[.agg #[.bool c1, .slice x1 n1 d1, .slice y1 m1 e1], .pointer (some ⟨T, 0, none⟩)] w fun e w' => ∃ y m d, e = .returned (.slice y m d) ∧ Ow w' w.heap.size (.slice y m d) ys ∧ Blk w' T 3 #[.int .i64 (t + ys.length : Nat)] ∧ w.grownBy w' (some T) := by
  have hW := balloc (Below.refl w.heap.size w) (.cells #[.bool c1, .slice x1 n1 d1, .slice y1 m1 e1] 25)
  have hT1 := hT.alloc (.cells #[.bool c1, .slice x1 n1 d1, .slice y1 m1 e1] 25)
  have hL1 := Lib.hid (hL _ hW)
  have hTl := hT.lt
  clear hL hT
  go_enter Tryd.func70, Tryd.ntmps70
  go_wp2_with fail
  refine hL1.out.mono ?_
  rintro e w1 ⟨y, m, d, rfl, hO, h1⟩
  have hm : m = ys.length := by obtain ⟨x, c, e⟩ := hO.is; injection e
  subst hm
  have hT2 := hT1.keep h1
  have hW1 := bstep hW h1
  have cT := cell_of_row w1 _ 0 _ _ _ hT2
  have fT := frozen_of_row w1 _ 0 _ _ hT2
  have hG := grown_set' (grown_refl w1 T) 0 (.int .i64 ((t + ys.length : Nat) : Int))
  have hO2 := hO.mono (show w.heap.size ≤ (w.alloc (.cells #[.bool c1, .slice x1 n1 d1, .slice y1 m1 e1] 25)).heap.size by simp)
  have hT3 := heap_setCell_same _ T 0 _ _ (.int .i64 ((t + ys.length : Nat) : Int)) hT2
  have g1 : IntKind.i64.wrap ((t : Int) + (ys.length : Int)) = ((t + ys.length : Nat) : Int) := (IntWalk.i64_in _ (by omega)).trans (by omega)
  have g2 : ((t + ys.length : Nat) : Int) ≤ 4096 := by omega
  have hO3 : Ow (w1.setCell ⟨T, 0, none⟩ (.int .i64 ((t + ys.length : Nat) : Int))) w.heap.size (.slice y ys.length d) ys := hO2.kept hG (fun r e => by cases e; exact hTl)
  have hg : w.grownBy (w1.setCell ⟨T, 0, none⟩ (.int .i64 ((t + ys.length : Nat) : Int))) (some T) :=
    ⟨hG.os.trans hW1.os, hG.tape.trans hW1.tape, hG.output.trans hW1.output, Nat.le_trans hW1.size hG.size, fun k hk hne => (hG.block k (Nat.lt_of_lt_of_le hk hW1.size) hne).trans (hW1.block k hk)⟩
  have HX := Lib.hid (And.intro hO3 (And.intro hT3 hg))
  clear hO hO2 hT1 hT2 hT3 hO3 hg hG hW hW1 h1 hL1 ht
  obtain ⟨q, hq⟩ : ∃ q, ys.length = q := ⟨_, rfl⟩
  rw [hq] at HX g1 g2 ⊢
  have HQ := Lib.hid hq
  clear hq
  go_wp2_with fail
  go_ret
  exact ⟨_, _, _, rfl, HX.out.1, by rw [HQ.out]; exact HX.out.2.1, HX.out.2.2⟩
end Go.Proofs.YtjmfnafbjfceoaaDoor

