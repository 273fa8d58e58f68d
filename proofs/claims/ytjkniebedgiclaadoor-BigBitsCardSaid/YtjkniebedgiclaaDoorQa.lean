/- Texts laid into one: Qa. -/
import Derived.Test.YtjkniebedgiclaaDoorOm
/- big: the reference in plain numbers. -/
namespace Go.Proofs.YtjkniebedgiclaaDoor
open Go.RowKit Go.Shelf

theorem em_fb_dz (l : List Nat) : em (fb l) = em (fb (dz l)) := by
  induction l with
  | nil => rfl
  | cons x l ih =>
    by_cases hx : x = 0
    · subst hx
      have h1 : dz (0 :: l) = dz l := rfl
      have h2 : fb (0 :: l) = [false, false, false, false, false, false, false, false] ++ fb l := rfl
      rw [h1, ← ih, h2]
      rfl
    · have h1 : dz (x :: l) = x :: l := by unfold dz; rw [List.dropWhile_cons, if_neg (by simpa using hx)]
      rw [h1]
theorem fb_len (l : List Nat) : (fb l).length = 8 * l.length := by
  induction l with
  | nil => rfl
  | cons x l ih =>
    have h1 : fb (x :: l) = b8 x ++ fb l := rfl
    rw [h1, List.length_append, ih, b8_len, List.length_cons]
    omega
theorem fb_get (l : List Nat) (i b : Nat) (h : l[i / 8]? = some b) : (fb l)[i]? = some (b.testBit (7 - i % 8)) := by
  have hi : i / 8 < l.length := (List.getElem?_eq_some_iff.1 h).1
  obtain ⟨r, hr⟩ := b8_pre l (i / 8) b (i % 8 + 1) h (by omega)
  have h1 : (fb (l.take (i / 8))).length = 8 * (i / 8) := by rw [fb_len, List.length_take, Nat.min_eq_left (by omega)]
  rw [hr, List.append_assoc, List.getElem?_append_right (by omega), h1, List.getElem?_append_left (by simp; omega), List.getElem?_map, List.getElem?_range (by omega)]
  rw [show i - 8 * (i / 8) = i % 8 by omega]
  rfl
theorem em_len (t : List Bool) : (em t).length ≤ t.length := by
  unfold em
  exact (List.dropWhile_sublist _).length_le
theorem em_nil_iff (l : List Nat) (h : ∀ x ∈ l, x < 256) : em (fb l) = [] ↔ bv l = 0 := by
  constructor
  · intro e
    rw [← bn_bits l h, ← em_fb_dz, e]; rfl
  · intro e
    rw [em_fb_dz, (dz_nil l).2 e]; rfl
/-- A byte of a number, counted from the lowest. -/
theorem bv_at (l : List Nat) (h : ∀ x ∈ l, x < 256) (i x : Nat) (hi : i < l.length) (hx : l[l.length - 1 - i]? = some x) : bv l / 256 ^ i % 256 = x := by
  have e : tb (bv l) l.length = l := bv_inj _ _ (by rw [tb_len]) (tb_lt _ _) h (by rw [bv_tb]; exact Nat.mod_eq_of_lt (bv_lt l h))
  have h1 := tb_get (bv l) l.length (l.length - 1 - i) (by omega)
  rw [e, hx, show l.length - 1 - (l.length - 1 - i) = i by omega] at h1
  injection h1 with h1
  exact h1.symm
theorem bv_beyond (l : List Nat) (h : ∀ x ∈ l, x < 256) (i : Nat) (hi : l.length ≤ i) : bv l / 256 ^ i % 256 = 0 := by
  have h1 := bv_lt l h
  have h2 : 256 ^ l.length ≤ 256 ^ i := Nat.pow_le_pow_right (by omega) hi
  rw [Nat.div_eq_of_lt (by omega)]
/-- The order, digit by digit. -/
theorem dig_split (A i : Nat) : A / 256 ^ i = A / 256 ^ (i + 1) * 256 + A / 256 ^ i % 256 := by
  rw [Nat.pow_succ, ← Nat.div_div_eq_div_mul]
  omega
theorem dig_less {A B i : Nat} (h : A / 256 ^ (i + 1) = B / 256 ^ (i + 1)) (hd : A / 256 ^ i % 256 < B / 256 ^ i % 256) : A < B := by
  have h1 := dig_split A i
  have h2 := dig_split B i
  by_cases hc : A < B
  · exact hc
  · have := Nat.div_le_div_right (c := 256 ^ i) (Nat.le_of_not_lt hc)
    omega
theorem dig_same {A B i : Nat} (h : A / 256 ^ (i + 1) = B / 256 ^ (i + 1)) (hd : A / 256 ^ i % 256 = B / 256 ^ i % 256) : A / 256 ^ i = B / 256 ^ i := by
  rw [dig_split A i, dig_split B i, h, hd]
/-- What is carried. -/
def kr8 (X Y i : Nat) : Nat := (X % 256 ^ i + Y % 256 ^ i) / 256 ^ i
theorem kr8_zero (X Y : Nat) : kr8 X Y 0 = 0 := by unfold kr8; simp [Nat.mod_one]
theorem kr8_le (X Y i : Nat) : kr8 X Y i ≤ 1 := by
  unfold kr8
  have hp : 0 < 256 ^ i := Nat.pow_pos (by omega)
  have h1 := Nat.mod_lt X hp
  have h2 := Nat.mod_lt Y hp
  have := (Nat.div_lt_iff_lt_mul hp).2 (show X % 256 ^ i + Y % 256 ^ i < 2 * 256 ^ i by omega)
  omega
theorem kr8_sum (X Y i : Nat) : (X + Y) / 256 ^ i = X / 256 ^ i + Y / 256 ^ i + kr8 X Y i := by
  unfold kr8
  have hp : 0 < 256 ^ i := Nat.pow_pos (by omega)
  have h1 := Nat.div_add_mod X (256 ^ i)
  have h2 := Nat.div_add_mod Y (256 ^ i)
  generalize 256 ^ i = P at *
  have e : X + Y = (X % P + Y % P) + P * (X / P + Y / P) := by rw [Nat.mul_add]; omega
  rw [e, Nat.add_mul_div_left _ _ hp]
  have e2 : ((X % P + Y % P) + P * (X / P + Y / P)) = X + Y := by omega
  omega
theorem kr8_digit (X Y i : Nat) : (X / 256 ^ i % 256 + Y / 256 ^ i % 256 + kr8 X Y i) % 256 = (X + Y) / 256 ^ i % 256 := by
  rw [kr8_sum]
  omega
theorem kr8_succ (X Y i : Nat) : (X / 256 ^ i % 256 + Y / 256 ^ i % 256 + kr8 X Y i) / 256 = kr8 X Y (i + 1) := by
  have h1 := kr8_sum X Y i
  have h2 := kr8_sum X Y (i + 1)
  rw [Nat.pow_succ, ← Nat.div_div_eq_div_mul, ← Nat.div_div_eq_div_mul, ← Nat.div_div_eq_div_mul] at h2
  omega
/-- A sum less than two moduli. -/
theorem sum_mod (A M : Nat) (h : A < 2 * M) : A % M = if M ≤ A then A - M else A := by
  by_cases c : M ≤ A
  · rw [if_pos c, Nat.mod_eq_sub_mod c, Nat.mod_eq_of_lt (by omega)]
  · rw [if_neg c, Nat.mod_eq_of_lt (by omega)]
/-- One step of a sum by bits. -/
theorem rtimes_step (A M N : Nat) (x : Bool) (r : Nat) (hr : r = A * N % M) : (x = false → (r + r) % M = A * (2 * N + x.toNat) % M) ∧ (x = true → ((r + r) % M + A % M) % M = A * (2 * N + x.toNat) % M) := by
  have e : (r + r) % M = A * (2 * N) % M := by
    rw [hr, ← Nat.add_mod]
    congr 1
    grind
  refine ⟨fun h => by subst h; exact e, fun h => ?_⟩
  subst h
  rw [e, ← Nat.add_mod]
  rfl
end Go.Proofs.YtjkniebedgiclaaDoor

/- big: the reference: a row of bits; at, Bits. -/
namespace Go.Proofs.YtjkniebedgiclaaDoor
open Go.RowKit Go.Shelf

/-- An own row of bits. -/
def OwB (X : World) (base : Nat) (v : Value) (l : List Bool) : Prop := X.ownsRow base 4 1 v l.length (l.map Value.bool)
theorem OwB.is {X : World} {base : Nat} {v : Value} {l : List Bool} (h : OwB X base v l) : ∃ x c, v = .slice x l.length c := by
  rcases h.2 with ⟨hv, hn⟩ | ⟨g, cap, cur, hv, hb, hg, hn, hc, _, _⟩
  · exact ⟨none, 0, by rw [hv, hn]⟩
  · exact ⟨some ⟨g, 0, none⟩, cap, hv⟩
theorem OwB.nil (X : World) (base : Nat) : OwB X base (.slice none 0 0) [] := World.ownsRow_nil _ _ _ _
theorem OwB.kept {X Y : World} {base : Nat} {v : Value} {l : List Bool} {row : Option Nat} (h : OwB X base v l) (hg : X.grownBy Y row) (hne : ∀ r, row = some r → r < base) : OwB Y base v l := by
  refine World.ownsRow.kept h hg ?_
  cases hv : v.ownBlock with
  | none => exact .inl rfl
  | some k => exact .inr fun e => by have := (World.ownsRow.lt h k hv).1; have := hne k e.symm; omega
theorem OwB.new {X Y : World} {base : Nat} {v : Value} {l : List Bool} (h : OwB X base v l) (k : Below X.heap.size X Y) : OwB Y base v l := h.kept (grown_new k) (fun _ e => by cases e)
/-- A slice that reads as a list of bits. -/
def Bls (X : World) (v : Value) (l : List Bool) : Prop := ∃ x c, v = .slice x l.length c ∧ (l ≠ [] → ∃ g, x = some ⟨g, 0, none⟩ ∧ g < X.heap.size ∧ ∀ k u, l[k]? = some u → X.cell? ⟨g, k, none⟩ = some (.bool u))
theorem OwB.bls {X : World} {base : Nat} {v : Value} {l : List Bool} (h : OwB X base v l) : Bls X v l := by
  rcases h.2 with ⟨hv, hn⟩ | ⟨g, cap, cur, hv, hb, hg, hn, hc, hs, ht⟩
  · exact ⟨none, 0, by rw [hv, hn], fun e => (e (List.eq_nil_of_length_eq_zero hn)).elim⟩
  · refine ⟨some ⟨g, 0, none⟩, cap, hv, fun _ => ⟨g, rfl, (Array.getElem?_eq_some_iff.1 hg).1, fun k u hk => ?_⟩⟩
    rw [Nat.mul_one] at ht
    have hi := (List.getElem?_eq_some_iff.1 hk).1
    have h1 : (cur.toList.take l.length)[k]? = (l.map Value.bool)[k]? := by rw [ht]
    rw [List.getElem?_take_of_lt hi, List.getElem?_map, Array.getElem?_toList, hk] at h1
    unfold World.cell?
    rw [hg]
    exact h1
theorem Bls.new {X Y : World} {v : Value} {l : List Bool} (h : Bls X v l) (k : Below X.heap.size X Y) : Bls Y v l := by
  obtain ⟨x, c, hv, hx⟩ := h
  refine ⟨x, c, hv, fun e => ?_⟩
  obtain ⟨g, h1, h2, h3⟩ := hx e
  exact ⟨g, h1, Nat.lt_of_lt_of_le h2 k.size, fun i u hu => (k.cell (p := ⟨g, i, none⟩) h2).trans (h3 i u hu)⟩
theorem infoBool : (Tryd.prog.info? 4).map (fun i => (i.zero, i.size, i.bytes)) = some (some (.bool false), 1, 1) := by kernel_rfl
set_option maxRecDepth 100000 in
theorem wpList_appB {w : World} {ops : Array Oper} {rest : List Oper} {o : Oper} {a : Act} {Q : Exit → Act → World → Prop} (hgd : o.guard = none) (s x : Operand)
    (ho : o.op = .call { callee := .builtin .append, args := #[s, x], argTypes := #[34, 34] })
    (base : Nat) (l : List Bool) (hown : OwB w base (a.eval s) l) (g : Nat) (d : Bool) (hx : a.eval x = .slice (some ⟨g, 0, none⟩) 1 1) (hc : w.cell? ⟨g, 0, none⟩ = some (.bool d)) (hn : l.length ≤ 100000) (hb : base ≤ w.heap.size)
    (h : ∀ v w', OwB w' base v (l ++ [d]) → w.grownBy w' (a.eval s).ownBlock → wpList Tryd.prog ops Q rest (a.put o.dst v) w') : wpList Tryd.prog ops Q (o :: rest) a w := by
  obtain ⟨i0, hi, hz0, hz1, hz2⟩ := info_parts' infoBool
  refine wpList_append_own _ hgd s x 34 ho base 4 i0 (.bool false) 1 1 (by kernel_rfl) hi hz0 hz1 hz2 rfl (by decide) _ l.length _ rfl hown ⟨g, 0, none⟩ 1 1 [.bool d] hx rfl ?_ (fun u hu => by simp at hu; subst hu; rfl) (by unfold maxLen; omega) (by omega) hb ?_
  · intro j u hj
    match j with
    | 0 => injection hj with hj; subst hj; rw [Go.WideShapes.add_plain]; exact hc
    | j + 1 => simp at hj
  · intro v' w' ho' hg _
    refine h v' w' ?_ hg
    unfold OwB
    rw [List.length_append, List.map_append]
    exact ho'

set_option maxRecDepth 100000 in
set_option maxHeartbeats 2000000 in
theorem rat_any (B : Nat) (v : Value) (l : List Nat) (i : Nat) (w : World) (hv : Bto B w v l) (hl : l.length ≤ 100000) (hi : i ≤ 100000) :
    Calls Tryd.prog 33 #[v, .int .i64 i] w fun e w' => e = .returned (.int .i64 (bv l / 256 ^ i % 256 : Nat)) ∧ w = w' := by
  obtain ⟨hb, x, c, rfl, h2, h3, h4⟩ := hv
  obtain ⟨n, hn⟩ : ∃ n, l.length = n := ⟨_, rfl⟩
  by_cases hlt : i < n
  · have hne : l ≠ [] := by intro e; rw [e] at hn; simp at hn; omega
    obtain ⟨b, o, rfl, _, _, hc⟩ := h4 hne
    obtain ⟨p, hp⟩ : ∃ p, n - 1 - i = p := ⟨_, rfl⟩
    obtain ⟨u, hu⟩ : ∃ u, l[p]? = some u := ⟨_, List.getElem?_eq_getElem (by omega)⟩
    have he := bv_at l hb i u (by omega) (by rw [hn, hp]; exact hu)
    have kc := hc p u hu
    rw [he, hn]
    have g0 : ¬ (i : Int) ≥ (n : Int) := by omega
    have g1 : IntKind.i64.wrap ((n : Int) - 1) = (n : Int) - 1 := IntWalk.i64_in _ (by omega)
    have g2 : (n : Int) - 1 - (i : Int) = (p : Int) := by omega
    have g3 : IntKind.i64.wrap (p : Int) = (p : Int) := IntWalk.i64_in _ (by omega)
    have g4 : (0 : Int) ≤ (p : Int) := by omega
    have g5 : (p : Int) < (n : Int) := by omega
    have g6 : IntKind.i64.wrap (u : Int) = (u : Int) := IntWalk.i64_in _ (by have := hb u (List.mem_of_getElem? hu); omega)
    clear hb h2 h3 h4 hc hu he hp hn hne
    go_enter Tryd.func33, Tryd.ntmps33
    go_wp2_with fail
    go_ret
    exact ⟨rfl, rfl⟩
  · have he := bv_beyond l hb i (by omega)
    rw [he, hn]
    have g0 : (i : Int) ≥ (n : Int) := by omega
    clear hb h2 h3 h4 he hn
    go_enter Tryd.func33, Tryd.ntmps33
    go_wp2_with fail
    go_ret
    exact ⟨rfl, rfl⟩

set_option maxRecDepth 100000 in
set_option maxHeartbeats 4000000 in
theorem rbits_any (B : Nat) (v : Value) (l : List Nat) (w : World) (hv : Bto B w v l) (hl : l.length ≤ 1000) :
    Calls Tryd.prog 14 #[v] w fun e w' => (∃ v', e = .returned v' ∧ OwB w' w.heap.size v' (em (fb l))) ∧ Below w.heap.size w w' := by
  have HV := Lib.hid hv
  obtain ⟨hb, x, c, rfl, h2, h3, h4⟩ := hv
  obtain ⟨n, hn⟩ : ∃ n, l.length = n := ⟨_, rfl⟩
  have HN := Lib.hid hn
  have HB := Lib.hid hb
  rw [hn] at hl HV ⊢
  clear hb h2 h3 h4 hn
  go_enter Tryd.func14, Tryd.ntmps14
  go_wp2_with fail
  go_loopw [3, 4] (fun s t wr => ∃ k : Nat, k ≤ 8 * n ∧ t = .int .i64 k ∧ OwB wr w.heap.size s (em ((fb l).take k)) ∧ Below w.heap.size w wr) (fun _ t _ => 8 * n - (intOf t).toNat)
  case atStart => exact ⟨0, Nat.zero_le _, rfl, OwB.nil _ _, Below.refl _ _⟩
  case round =>
    obtain ⟨k, hk, rfl, hown, hW⟩ := hrel
    obtain ⟨xs, cs, hsl⟩ := hown.is
    have g1 : IntKind.i64.wrap (8 * (n : Int)) = 8 * (n : Int) := IntWalk.i64_in _ (by omega)
    by_cases hlt : k < 8 * n
    · have g0 : (k : Int) < 8 * (n : Int) := by omega
      obtain ⟨q, hq⟩ : ∃ q, k / 8 = q := ⟨_, rfl⟩
      obtain ⟨r, hr⟩ : ∃ r, k % 8 = r := ⟨_, rfl⟩
      obtain ⟨p, hp⟩ : ∃ p, 7 - r = p := ⟨_, rfl⟩
      obtain ⟨u, hu⟩ : ∃ u, l[q]? = some u := ⟨_, List.getElem?_eq_getElem (by have := HN.out; omega)⟩
      obtain ⟨_, x2, c2, he2, _, _, hc⟩ := (HV.out).new hW
      obtain ⟨b0, o0, hx2, _, _, hc2⟩ := hc (fun e => by rw [e] at hu; cases hu)
      injection he2 with e1 e2 e3
      rw [← e1] at hx2
      subst hx2
      have kc := hc2 q u hu
      have hub : u < 256 := HB.out u (List.mem_of_getElem? hu)
      obtain ⟨t, ht⟩ : ∃ t, u.testBit p = t := ⟨_, rfl⟩
      have hget := fb_get l k u (by rw [hq]; exact hu)
      rw [hr, hp, ht] at hget
      have htk : (fb l).take (k + 1) = (fb l).take k ++ [t] := by rw [List.take_add_one, hget]; rfl
      obtain ⟨z, hz⟩ : ∃ z, u / 2 ^ p = z := ⟨_, rfl⟩
      obtain ⟨y, hy⟩ : ∃ y, z % 2 = y := ⟨_, rfl⟩
      have hzl : z < 256 := by rw [← hz]; exact Nat.lt_of_le_of_lt (Nat.div_le_self _ _) hub
      have g2 : (k : Int).tdiv 8 = (q : Int) := by rw [Int.tdiv_eq_ediv_of_nonneg (by omega)]; omega
      have g3 : (k : Int).tmod 8 = (r : Int) := by rw [Int.tmod_eq_emod_of_nonneg (by omega)]; omega
      have g4 : (7 : Int) - (r : Int) = (p : Int) := by omega
      have g5 : IntKind.u64.wrap (p : Int) = (p : Int) := wrapN _ (by omega)
      have g6 : (u : Int) / 2 ^ p = (z : Int) := by rw [← hz, Int.natCast_ediv, Int.natCast_pow]; rfl
      have g7 : (z : Int).tmod 2 = (y : Int) := by rw [Int.tmod_eq_emod_of_nonneg (by omega)]; omega
      have g8 : (p : Int) ≤ 8 := by omega
      have g9 : (0 : Int) ≤ (p : Int) := by omega
      have g10 : IntKind.i64.wrap ((k : Int) + 1) = ((k + 1 : Nat) : Int) := IntWalk.i64_in _ (by omega)
      have g11 : (0 : Int) ≤ (q : Int) := by omega
      have g12 : (q : Int) < (n : Int) := by omega
      have g13 : ((y : Int) == 1) = t := by
        rw [← ht, Nat.testBit_eq_decide_div_mod_eq, hz, hy]
        have : y = 0 ∨ y = 1 := by omega
        rcases this with h | h <;> rw [h] <;> rfl
      have g14 : IntKind.i64.wrap (q : Int) = (q : Int) := IntWalk.i64_in _ (by omega)
      have g15 : IntKind.i64.wrap (r : Int) = (r : Int) := IntWalk.i64_in _ (by omega)
      have g16 : IntKind.i64.wrap (p : Int) = (p : Int) := IntWalk.i64_in _ (by omega)
      have g17 : IntKind.u8.wrap (z : Int) = (z : Int) := by rw [IntKind.wrap_u8]; omega
      have g18 : IntKind.u8.wrap (y : Int) = (y : Int) := by rw [IntKind.wrap_u8]; omega
      obtain ⟨T, hT⟩ : ∃ T, em ((fb l).take k) = T := ⟨_, rfl⟩
      have hTl : T.length ≤ 8000 := by rw [← hT]; have := em_len ((fb l).take k); rw [List.length_take] at this; omega
      have HE := Lib.hid (And.intro htk hT)
      rw [hT] at hown hsl
      obtain ⟨m, hm⟩ : ∃ m, T.length = m := ⟨_, rfl⟩
      have hown2 := hown.new ((Below.refl _ wr).alloc (Nat.le_refl _) (.cells #[.bool t] 4))
      have HA := Lib.hid (And.intro hown2 (And.intro (cell_of_row _ _ 0 _ _ _ (Blk.new wr 4 #[.bool t])) (And.intro (hW.alloc hW.size (.cells #[.bool t] 4)) (And.intro (show w.heap.size ≤ (wr.alloc (.cells #[.bool t] 4)).heap.size by have := hW.size; simp; omega) (And.intro (show T.length ≤ 100000 by omega) (And.intro hown (And.intro hW hm)))))))
      rw [hm] at hsl
      rw [hsl] at HA ⊢
      clear hown hown2 hW e2 e3 hc hc2 hu hub hget htk hz hy hzl ht hT hTl hm hq hr hp e1 hsl
      by_cases hap : t = true ∨ 0 < m
      · have hap2 : (t = true) ∨ (t = false ∧ 0 < m) := by rcases hap with h | h; exact .inl h; cases t; exact .inr ⟨rfl, h⟩; exact .inl rfl
        clear hap
        rcases hap2 with rfl | ⟨rfl, hm0⟩
        · go_wp2_with (first | (at_builtin; refine wpList_appB rfl _ _ rfl w.heap.size T HA.out.1 wr.heap.size true rfl HA.out.2.1 HA.out.2.2.2.2.1 HA.out.2.2.2.1 ?_; intro v2 w2 hO2 hg2; have HO := Lib.hid (And.intro hO2 hg2); clear hO2 hg2) | fail)
          obtain ⟨_, _, hA3, hA4, _, _, _, hmT⟩ := HA.out
          have hyes : (!(em ((fb l).take k)).isEmpty || true) = true := by simp
          exact ⟨⟨k + 1, by omega, congrArg (Value.int .i64) (by omega), by rw [HE.out.1, em_yes _ _ hyes, HE.out.2]; exact HO.out.1, hA3.grown HO.out.2 hA4 (fun k e => (World.ownsRow.lt HA.out.1 k e).1)⟩, by simp [intOf]; omega⟩
        · have gm : (0 : Int) < (m : Int) := by omega
          go_wp2_with (first | (at_builtin; refine wpList_appB rfl _ _ rfl w.heap.size T HA.out.1 wr.heap.size false rfl HA.out.2.1 HA.out.2.2.2.2.1 HA.out.2.2.2.1 ?_; intro v2 w2 hO2 hg2; have HO := Lib.hid (And.intro hO2 hg2); clear hO2 hg2) | fail)
          obtain ⟨_, _, hA3, hA4, _, _, _, hmT⟩ := HA.out
          have hyes : (!(em ((fb l).take k)).isEmpty || false) = true := by rw [HE.out.2]; cases T with | nil => exact absurd hmT (by simp; omega) | cons a T => rfl
          exact ⟨⟨k + 1, by omega, congrArg (Value.int .i64) (by omega), by rw [HE.out.1, em_yes _ _ hyes, HE.out.2]; exact HO.out.1, hA3.grown HO.out.2 hA4 (fun k e => (World.ownsRow.lt HA.out.1 k e).1)⟩, by simp [intOf]; omega⟩
      · obtain rfl : t = false := by cases t; rfl; exact (hap (.inl rfl)).elim
        obtain rfl : m = 0 := by omega
        clear hap
        go_wp2_with fail
        obtain ⟨_, _, _, _, _, hA5, hA6, hmT⟩ := HA.out
        have hT0 : T = [] := List.eq_nil_of_length_eq_zero hmT
        have hno : em ((fb l).take (k + 1)) = [] := by rw [HE.out.1, em_snoc, HE.out.2, hT0]; rfl
        exact ⟨⟨k + 1, by omega, congrArg (Value.int .i64) (by omega), by rw [hno]; rw [hT0] at hA5; exact hA5, hA6⟩, by simp [intOf]; omega⟩
    · obtain rfl : k = 8 * n := by omega
      have HO := Lib.hid (And.intro hown hW)
      rw [hsl] at HO ⊢
      clear hown hW hsl
      go_wp2_with fail
      go_ret
      rw [List.take_of_length_le (by rw [fb_len, HN.out]; omega)] at HO ⊢
      exact ⟨⟨_, rfl, HO.out.1⟩, HO.out.2⟩
end Go.Proofs.YtjkniebedgiclaaDoor

/- big: the reference: Order. -/
namespace Go.Proofs.YtjkniebedgiclaaDoor
open Go.RowKit Go.Shelf

set_option maxRecDepth 100000 in
set_option maxHeartbeats 1000000 in
theorem rorder_any (B : Nat) (v1 v2 : Value) (a b : List Nat) (w : World) (h1 : a.length ≤ 10000) (h2 : b.length ≤ 10000) (ha : Bto B w v1 a) (hb : Bto B w v2 b) :
    Calls Tryd.prog 17 #[v1, v2] w fun e w' => e = .returned (.int .i64 (ordN (bv a) (bv b))) ∧ w = w' := by
  have la := bv_lt a ha.1
  have lb := bv_lt b hb.1
  have HA := Lib.hid (And.intro ha hb)
  obtain ⟨_, x1, c1, rfl, _, _, _⟩ := ha
  obtain ⟨_, x2, c2, rfl, _, _, _⟩ := hb
  obtain ⟨n1, e1⟩ : ∃ n, a.length = n := ⟨_, rfl⟩
  obtain ⟨n2, e2⟩ : ∃ n, b.length = n := ⟨_, rfl⟩
  obtain ⟨N, hN⟩ : ∃ n, max n1 n2 = n := ⟨_, rfl⟩
  obtain ⟨V, hV⟩ : ∃ V, bv a = V := ⟨_, rfl⟩
  obtain ⟨U, hU⟩ : ∃ V, bv b = V := ⟨_, rfl⟩
  have hVN : V / 256 ^ N = U / 256 ^ N := by
    rw [e1, hV] at la
    rw [e2, hU] at lb
    have q1 : 256 ^ n1 ≤ 256 ^ N := Nat.pow_le_pow_right (by omega) (by omega)
    have q2 : 256 ^ n2 ≤ 256 ^ N := Nat.pow_le_pow_right (by omega) (by omega)
    rw [Nat.div_eq_of_lt (by omega), Nat.div_eq_of_lt (by omega)]
  have hAt : ∀ i : Nat, i ≤ 100000 → Calls Tryd.prog 33 #[.slice x1 n1 c1, .int .i64 i] w (fun e w' => e = .returned (.int .i64 (V / 256 ^ i % 256 : Nat)) ∧ w = w') ∧ Calls Tryd.prog 33 #[.slice x2 n2 c2, .int .i64 i] w (fun e w' => e = .returned (.int .i64 (U / 256 ^ i % 256 : Nat)) ∧ w = w') := fun i hi => by
    have r1 := rat_any B _ a i w HA.out.1 (by omega) hi
    have r2 := rat_any B _ b i w HA.out.2 (by omega) hi
    rw [hV, e1] at r1
    rw [hU, e2] at r2
    exact ⟨r1, r2⟩
  have HT := Lib.hid hAt
  rw [e1] at h1 ⊢
  rw [e2] at h2 ⊢
  rw [hV, hU]
  have g0 : max (n1 : Int) (n2 : Int) = (N : Int) := by omega
  have g1 : IntKind.i64.wrap ((N : Int) - 1) = (N : Int) - 1 := IntWalk.i64_in _ (by omega)
  have hNl : N ≤ 10000 := by omega
  have HVN := Lib.hid hVN
  clear la lb HA e1 e2 hV hU hAt hN hVN
  go_enter Tryd.func17, Tryd.ntmps17
  go_wp2_with fail
  clear g0 g1 h1 h2
  go_loopw [5] (fun t wr => ∃ i : Nat, t = .int .i64 ((i : Int) - 1) ∧ i ≤ N ∧ V / 256 ^ i = U / 256 ^ i ∧ w = wr) (fun t _ => (intOf t + 1).toNat)
  case atStart => exact ⟨N, rfl, Nat.le_refl _, HVN.out, rfl⟩
  case round =>
    obtain ⟨i, rfl, hi, hVU, rfl⟩ := hrel
    clear HVN
    have HVU := Lib.hid hVU
    clear hVU
    cases i with
    | succ i =>
      have hVi : (((i + 1 : Nat) : Int) - 1) = (i : Int) := by omega
      rw [hVi]
      have g0 : (i : Int) ≥ 0 := by omega
      have r1 := Lib.hid (HT.out i (by omega))
      have d1 := Lib.hid (@dig_less V U i HVU.out)
      have d2 := Lib.hid (@dig_less U V i HVU.out.symm)
      have d3 := Lib.hid (@dig_same V U i HVU.out)
      obtain ⟨x, hx⟩ : ∃ x, V / 256 ^ i % 256 = x := ⟨_, rfl⟩
      obtain ⟨y, hy⟩ : ∃ x, U / 256 ^ i % 256 = x := ⟨_, rfl⟩
      rw [hx, hy] at r1 d1 d2 d3
      have g2 : IntKind.i64.wrap ((i : Int) - 1) = (i : Int) - 1 := IntWalk.i64_in _ (by omega)
      clear hVi hx hy HVU HT
      by_cases c1' : x < y
      · have k1 : ¬ ((x : Int) = (y : Int)) := by omega
        have k1b : ((x : Int) == (y : Int)) = false := by simp; omega
        have k2 : (x : Int) < (y : Int) := by omega
        have he : ordN V U = -1 := by unfold ordN; rw [if_pos (d1.out c1')]
        have HE := Lib.hid he
        clear d1 d2 d3 he c1'
        go_wp2_with (first | (go_at_call 33; first | (with_reducible refine r1.out.1.mono ?_; rintro e w1 ⟨rfl, rfl⟩) | (with_reducible refine r1.out.2.mono ?_; rintro e w1 ⟨rfl, rfl⟩)) | fail)
        go_ret
        rw [HE.out]
        exact ⟨rfl, rfl⟩
      · by_cases c2' : y < x
        · have k1 : ¬ ((x : Int) = (y : Int)) := by omega
          have k1b : ((x : Int) == (y : Int)) = false := by simp; omega
          have k2 : ¬ (x : Int) < (y : Int) := by omega
          have h3 := d2.out c2'
          have he : ordN V U = 1 := by unfold ordN; rw [if_neg (by omega), if_pos h3]
          have HE := Lib.hid he
          clear d1 d2 d3 he c1' c2' h3
          go_wp2_with (first | (go_at_call 33; first | (with_reducible refine r1.out.1.mono ?_; rintro e w1 ⟨rfl, rfl⟩) | (with_reducible refine r1.out.2.mono ?_; rintro e w1 ⟨rfl, rfl⟩)) | fail)
          go_ret
          rw [HE.out]
          exact ⟨rfl, rfl⟩
        · obtain rfl : x = y := by omega
          have HD := Lib.hid (d3.out rfl)
          clear d1 d2 d3 c1' c2'
          go_wp2_with (first | (go_at_call 33; first | (with_reducible refine r1.out.1.mono ?_; rintro e w1 ⟨rfl, rfl⟩) | (with_reducible refine r1.out.2.mono ?_; rintro e w1 ⟨rfl, rfl⟩)) | fail)
          exact ⟨⟨i, rfl, by omega, HD.out, trivial⟩, by simp [intOf]⟩
    | zero =>
      have hVi : (((0 : Nat) : Int) - 1) = -1 := rfl
      rw [hVi]
      have he : ordN V U = 0 := by
        have hVU := HVU.out
        rw [Nat.pow_zero, Nat.div_one, Nat.div_one] at hVU
        unfold ordN
        rw [if_neg (by omega), if_neg (by omega)]
      have HE := Lib.hid he
      clear he HVU HT hVi
      go_wp2_with fail
      go_ret
      rw [HE.out]
      exact ⟨rfl, rfl⟩
end Go.Proofs.YtjkniebedgiclaaDoor

/- big: the reference: a sum by a modulus. -/
namespace Go.Proofs.YtjkniebedgiclaaDoor
open Go.RowKit Go.Shelf

theorem Bto.lift {B : Nat} {X : World} {v : Value} {l : List Nat} (h : Bto B X v l) : Bto X.heap.size X v l := by
  obtain ⟨h1, x, c, h2, h3, h4, h5⟩ := h
  exact ⟨h1, x, c, h2, h3, h4, fun e => by obtain ⟨b, o, q1, q2, q3, q4⟩ := h5 e; exact ⟨b, o, q1, q3, q3, q4⟩⟩
/-- A row of which the low bytes are a number's already. -/
def lowF (n i S : Nat) (f0 : Nat → Nat) : Nat → Nat := fun p => if n + 1 - i ≤ p then S / 256 ^ (n - p) % 256 else f0 p
theorem lowF_step (n i S : Nat) (f0 : Nat → Nat) (hi : i ≤ n) (p : Nat) (hp : p < n + 1) : upf (lowF n i S f0) (n - i) (S / 256 ^ i % 256) p = lowF n (i + 1) S f0 p := by
  unfold upf lowF
  by_cases e : p = n - i
  · subst e
    rw [if_pos rfl, if_pos (by omega), show n - (n - i) = i by omega]
  · rw [if_neg e]
    by_cases e2 : n + 1 - i ≤ p
    · rw [if_pos e2, if_pos (by omega)]
    · rw [if_neg e2, if_neg (by omega)]
theorem Bk.bto1 {X : World} {b n N B : Nat} {f : Nat → Nat} {l : List Nat} (h : Bk X b N f) (hN : n + 1 = N) (hB : b < B) (hl : l.length = n) (hn : n ≤ 1000000) (e : ∀ i u, l[i]? = some u → f (i + 1) = u) (hu : ∀ x ∈ l, x < 256) : Bto B X (.slice (some ⟨b, 1, none⟩) n n) l := by
  refine ⟨hu, some ⟨b, 1, none⟩, n, by rw [hl], by omega, by omega, fun _ => ⟨b, 1, rfl, hB, h.lt, fun k u hk => ?_⟩⟩
  have hkN : k < n := by
    by_cases e2 : k < l.length
    · omega
    · rw [List.getElem?_eq_none (by omega)] at hk; cases hk
  rw [Nat.add_comm 1 k, h.cell (k + 1) (by omega), e k u hk]

set_option maxRecDepth 100000 in
set_option maxHeartbeats 4000000 in
theorem radd_any (B1 B2 B3 : Nat) (v1 v2 v3 : Value) (a b m : List Nat) (w : World) (l1 : a.length ≤ 1000) (l2 : b.length ≤ 1000) (l3 : m.length ≤ 1000) (h1 : Bto B1 w v1 a) (h2 : Bto B2 w v2 b) (h3 : Bto B3 w v3 m) (hS : bv a + bv b < 2 * bv m) :
    Calls Tryd.prog 25 #[v1, v2, v3] w fun e w' => (∃ v', e = .returned v' ∧ Bto w'.heap.size w' v' (tb ((bv a + bv b) % bv m) m.length)) ∧ Below w.heap.size w w' := by
  have h1 := h1.lift
  have h2 := h2.lift
  have h3 := h3.lift
  have lm := bv_lt m h3.1
  have H0 := Lib.hid (And.intro h1 (And.intro h2 h3))
  obtain ⟨_, x3, c3, rfl, _, _, _⟩ := h3
  obtain ⟨n, e3⟩ : ∃ n, m.length = n := ⟨_, rfl⟩
  obtain ⟨N, hN⟩ : ∃ N, n + 1 = N := ⟨_, rfl⟩
  obtain ⟨A, hA⟩ : ∃ V, bv a = V := ⟨_, rfl⟩
  obtain ⟨U, hU⟩ : ∃ V, bv b = V := ⟨_, rfl⟩
  obtain ⟨M, hM⟩ : ∃ V, bv m = V := ⟨_, rfl⟩
  obtain ⟨S, hSd⟩ : ∃ S, A + U = S := ⟨_, rfl⟩
  rw [hA, hU, hM, hSd] at hS
  rw [e3] at l3 lm
  rw [hM] at lm
  have HT : ∀ (wr : World), Below w.heap.size w wr → ∀ i : Nat, i ≤ 100000 → Calls Tryd.prog 33 #[v1, .int .i64 i] wr (fun e w' => e = .returned (.int .i64 (A / 256 ^ i % 256 : Nat)) ∧ wr = w') ∧ Calls Tryd.prog 33 #[v2, .int .i64 i] wr (fun e w' => e = .returned (.int .i64 (U / 256 ^ i % 256 : Nat)) ∧ wr = w') ∧ Calls Tryd.prog 33 #[.slice x3 n c3, .int .i64 i] wr (fun e w' => e = .returned (.int .i64 (M / 256 ^ i % 256 : Nat)) ∧ wr = w') := fun wr hb i hi => by
    have r1 := rat_any _ _ a i wr (H0.out.1.new hb) (by omega) hi
    have r2 := rat_any _ _ b i wr (H0.out.2.1.new hb) (by omega) hi
    have r3 := rat_any _ _ m i wr (H0.out.2.2.new hb) (by omega) hi
    rw [hA] at r1
    rw [hU] at r2
    rw [hM, e3] at r3
    exact ⟨r1, r2, r3⟩
  have HT := Lib.hid HT
  have hSN : S < 256 ^ N := by rw [← hN, Nat.pow_succ]; omega
  have hmk := make_bytes N (by omega)
  obtain ⟨X, hX⟩ : ∃ X, w.alloc (.cells (bvs (List.replicate N 0)).toArray 5) = X := ⟨_, rfl⟩
  have hB : Bk X w.heap.size N (fun _ => 0) := by rw [← hX]; exact Bk.made w N
  have hC : Below w.heap.size w X := by rw [← hX]; exact balloc (Below.refl _ w) _
  have HX := Lib.hid hX
  have HO : ∀ (wr : World), Below w.heap.size w wr → ∀ f, Bk wr w.heap.size N f → (∀ p, p < N → f p = S / 256 ^ (n - p) % 256) → Calls Tryd.prog 17 #[.slice (some ⟨w.heap.size, 0, none⟩) N N, .slice x3 n c3] wr (fun e w' => e = .returned (.int .i64 (ordN S M)) ∧ wr = w') := fun wr hb f hk hf => by
    have hbto : Bto (w.heap.size + 1) wr (.slice (some ⟨w.heap.size, 0, none⟩) N N) (tb S N) := hk.bto (by omega) (tb_len _ _) (by omega) (fun i u hu => by
      have hi : i < N := by
        by_cases e : i < N
        · exact e
        · rw [List.getElem?_eq_none (by rw [tb_len]; omega)] at hu; cases hu
      rw [tb_get S N i hi] at hu
      injection hu with hu
      rw [hf i hi, ← hu, show N - 1 - i = n - i by omega]) (tb_lt _ _)
    have r := rorder_any (w.heap.size + 1) _ _ (tb S N) m wr (by rw [tb_len]; omega) (by omega) hbto (((H0.out.2.2.new hb).1 |> fun _ => (by
      obtain ⟨q1, x, c, q2, q3, q4, q5⟩ := H0.out.2.2.new hb
      exact ⟨q1, x, c, q2, q3, q4, fun e => by obtain ⟨b, o, p1, p2, p3, p4⟩ := q5 e; exact ⟨b, o, p1, by omega, p3, p4⟩⟩)))
    rw [bv_tb, Nat.mod_eq_of_lt hSN, hM, e3] at r
    exact r
  have HO := Lib.hid HO
  have HS := Lib.hid (And.intro hB (And.intro hC (And.intro hSd (And.intro hS (And.intro lm hSN)))))
  rw [e3, hA, hU, hM, hSd]
  have g0 : (n : Int) + 1 = (N : Int) := by omega
  have g1 : IntKind.i64.wrap (N : Int) = (N : Int) := IntWalk.i64_in _ (by omega)
  obtain ⟨w0, hw0⟩ : ∃ k, w.heap.size = k := ⟨_, rfl⟩
  have HW0 := Lib.hid hw0
  rw [hw0] at HO HS HT ⊢
  clear hX hB hC hA hU hM hSd hS lm hSN H0 h1 h2
  go_enter Tryd.func25, Tryd.ntmps25
  go_wp2_with fail
  rw [HX.out]
  clear hmk g0 g1
  go_loopw [8, 9] (fun s t wr => ∃ i : Nat, i ≤ N ∧ t = .int .i64 i ∧ s = .int .i64 (kr8 A U i : Nat) ∧ Bk wr w0 N (lowF n i S fun _ => 0) ∧ Below w0 w wr) (fun _ t _ => N - (intOf t).toNat)
  case atStart => exact ⟨0, Nat.zero_le _, rfl, by rw [kr8_zero]; rfl, HS.out.1.congr fun p hp => by unfold lowF; rw [if_neg (by omega)], HS.out.2.1⟩
  case round =>
    obtain ⟨i, hi, rfl, rfl, hb, hW⟩ := hrel
    by_cases hlt : i < N
    · have g0 : (i : Int) ≤ (n : Int) := by omega
      have HC := Lib.hid (HT.out wr hW i (by omega))
      have kd := kr8_digit A U i
      have ks := kr8_succ A U i
      have kl := kr8_le A U i
      rw [HS.out.2.2.1] at kd
      obtain ⟨x, hx⟩ : ∃ x, A / 256 ^ i % 256 = x := ⟨_, rfl⟩
      obtain ⟨y, hy⟩ : ∃ x, U / 256 ^ i % 256 = x := ⟨_, rfl⟩
      obtain ⟨k, hk⟩ : ∃ x, kr8 A U i = x := ⟨_, rfl⟩
      have hxl : x < 256 := by rw [← hx]; exact Nat.mod_lt _ (by omega)
      have hyl : y < 256 := by rw [← hy]; exact Nat.mod_lt _ (by omega)
      rw [hx, hy] at HC
      rw [hx, hy, hk] at kd ks
      rw [hk] at kl ⊢
      obtain ⟨s1, hs1⟩ : ∃ s, k + x = s := ⟨_, rfl⟩
      obtain ⟨s, hs⟩ : ∃ s, s1 + y = s := ⟨_, rfl⟩
      rw [show x + y + k = s by omega] at kd ks
      obtain ⟨d, hd⟩ : ∃ d, s % 256 = d := ⟨_, rfl⟩
      obtain ⟨q, hq⟩ : ∃ d, s / 256 = d := ⟨_, rfl⟩
      obtain ⟨p, hp⟩ : ∃ p, n - i = p := ⟨_, rfl⟩
      have c2' := hb.cell p (by omega)
      have c3' := hb.free p
      have m1 : (k : Int) + (x : Int) = (s1 : Int) := by omega
      have m1' : IntKind.i64.wrap (s1 : Int) = (s1 : Int) := IntWalk.i64_in _ (by omega)
      have m2 : (s1 : Int) + (y : Int) = (s : Int) := by omega
      have m2' : IntKind.i64.wrap (s : Int) = (s : Int) := IntWalk.i64_in _ (by omega)
      have m3 : (s : Int).tmod 256 = (d : Int) := by rw [Int.tmod_eq_emod_of_nonneg (by omega)]; omega
      have m3' : IntKind.i64.wrap (d : Int) = (d : Int) := IntWalk.i64_in _ (by omega)
      have m3'' : IntKind.u8.wrap (d : Int) = (d : Int) := by rw [IntKind.wrap_u8]; omega
      have m4 : (s : Int).tdiv 256 = (q : Int) := by rw [Int.tdiv_eq_ediv_of_nonneg (by omega)]; omega
      have m4' : IntKind.i64.wrap (q : Int) = (q : Int) := IntWalk.i64_in _ (by omega)
      have m5 : (n : Int) - (i : Int) = (p : Int) := by omega
      have m5' : IntKind.i64.wrap (p : Int) = (p : Int) := IntWalk.i64_in _ (by omega)
      have m6 : (0 : Int) ≤ (p : Int) := by omega
      have m7 : (p : Int) < (N : Int) := by omega
      have m8 : IntKind.i64.wrap ((i : Int) + 1) = ((i + 1 : Nat) : Int) := IntWalk.i64_in _ (by omega)
      have hdl : d < 256 := by omega
      have HV := Lib.hid (And.intro hb (And.intro hW (And.intro (hd.symm.trans kd) (And.intro (hq.symm.trans ks) (And.intro hp hdl)))))
      clear hb hW kd ks kl hx hy hk hs1 hs hd hq hp hxl hyl hdl
      go_wp2_with (first | (go_at_call 33; first | (with_reducible refine HC.out.1.mono ?_; rintro e w1 ⟨rfl, rfl⟩) | (with_reducible refine HC.out.2.1.mono ?_; rintro e w1 ⟨rfl, rfl⟩)) | fail)
      obtain ⟨hb, hW, kd, ks, hp, hdl⟩ := HV.out
      exact ⟨⟨i + 1, by omega, congrArg (Value.int .i64) (by omega), by rw [ks], (hb.set p d hdl).congr fun j hj => by rw [← hp, kd]; exact lowF_step n i S _ (by omega) j (by omega), hW.setCell (p := ⟨w0, p, none⟩) (Nat.le_refl _) _⟩, by simp [intOf]; omega⟩
    · obtain rfl : N = i := by omega
      obtain ⟨_, _, hSd, hS, lm, hSN⟩ := HS.out
      have hn1 : 1 ≤ n := by
        by_cases e : n = 0
        · rw [e, Nat.pow_zero] at lm; omega
        · omega
      have hb2 : Bk wr w0 N (fun p => S / 256 ^ (n - p) % 256) := hb.congr fun p hp => by unfold lowF; rw [if_pos (by omega)]
      have HOr := Lib.hid (HO.out wr hW _ hb2 (fun _ _ => rfl))
      have hcut : ∀ w, (Instr.slice 22 (.slice (some ⟨w0, 0, none⟩) N N) (some (.int .i64 1)) none none).run Tryd.prog w = .ok (.slice (some ⟨w0, 1, none⟩) n n) w := fun w => by
        have h := cutb_from w0 0 N N 1 (by omega) (Nat.le_refl _) w
        rw [show N - 1 = n by omega] at h
        exact h
      have hgn : ¬ (N : Int) ≤ (n : Int) := by omega
      have hBW := Lib.hid (And.intro hb2 hW)
      clear hb hb2 hW lm hSN HO
      by_cases hc : M ≤ S
      · obtain ⟨o, ho⟩ : ∃ o, ordN S M = o := ⟨_, rfl⟩
        have ho0 : o ≥ 0 := by rw [← ho]; unfold ordN; rw [if_neg (by omega)]; split <;> omega
        obtain ⟨D, hD⟩ : ∃ D, S - M = D := ⟨_, rfl⟩
        have hMD : M + D = S := by omega
        have hmod : S % M = D := by rw [sum_mod S M hS, if_pos hc, hD]
        rw [ho] at HOr
        have HMOD := Lib.hid hmod
        have HMD := Lib.hid (And.intro hMD hn1)
        clear ho hD hmod hc hS hSd HS hn1 hMD
        go_wp2_with (first | (go_at_call 17; refine HOr.out.mono ?_; rintro e w1 ⟨rfl, rfl⟩) | fail)
        clear HOr ho0
        go_loopw [8, 10] (fun s t wx => ∃ i : Nat, i ≤ N ∧ t = .int .i64 i ∧ s = .int .i64 (kr8 M D i : Nat) ∧ Bk wx w0 N (lowF n i D fun p => S / 256 ^ (n - p) % 256) ∧ Below w0 w wx) (fun _ t _ => N - (intOf t).toNat)
        case atStart => exact ⟨0, Nat.zero_le _, rfl, by rw [kr8_zero]; rfl, hBW.out.1.congr fun p hp => by unfold lowF; rw [if_neg (by omega)], hBW.out.2⟩
        case round =>
          obtain ⟨i, hi2, rfl, rfl, hb, hW⟩ := hrel
          by_cases hlt2 : i < N
          · have g0 : (i : Int) ≤ (n : Int) := by omega
            have hbD : ∀ k, Below w0 w (wr.drewN k) := fun k => hW.trans ⟨rfl, rfl, rfl, Nat.le_refl _, fun _ _ => rfl⟩
            have HC := Lib.hid (fun k => (HT.out (wr.drewN k) (hbD k) i (by omega)).2.2)
            have kd := kr8_digit M D i
            have ks := kr8_succ M D i
            have kl := kr8_le M D i
            rw [HMD.out.1] at kd
            obtain ⟨p, hp⟩ : ∃ p, n - i = p := ⟨_, rfl⟩
            have c1 := hb.cell p (by omega)
            have c3' := hb.free p
            have hlow : lowF n i D (fun p => S / 256 ^ (n - p) % 256) p = S / 256 ^ i % 256 := by
              unfold lowF
              rw [if_neg (by omega)]
              show S / 256 ^ (n - p) % 256 = _
              rw [show n - p = i by omega]
            rw [hlow] at c1
            obtain ⟨x, hx⟩ : ∃ x, M / 256 ^ i % 256 = x := ⟨_, rfl⟩
            obtain ⟨y, hy⟩ : ∃ x, D / 256 ^ i % 256 = x := ⟨_, rfl⟩
            obtain ⟨z, hz⟩ : ∃ x, S / 256 ^ i % 256 = x := ⟨_, rfl⟩
            obtain ⟨k, hk⟩ : ∃ x, kr8 M D i = x := ⟨_, rfl⟩
            have hxl : x < 256 := by rw [← hx]; exact Nat.mod_lt _ (by omega)
            have hyl : y < 256 := by rw [← hy]; exact Nat.mod_lt _ (by omega)
            rw [hx] at HC
            rw [hx, hy, hk] at kd ks
            rw [hz] at kd c1
            rw [hk] at kl ⊢
            obtain ⟨d1, hd1⟩ : ∃ s : Int, (z : Int) - (x : Int) = s := ⟨_, rfl⟩
            obtain ⟨d2, hd2⟩ : ∃ s : Int, d1 - (k : Int) = s := ⟨_, rfl⟩
            have m1 : IntKind.i64.wrap d1 = d1 := IntWalk.i64_in _ (by omega)
            have m2 : IntKind.i64.wrap d2 = d2 := IntWalk.i64_in _ (by omega)
            have m3 : IntKind.i64.wrap (z : Int) = (z : Int) := IntWalk.i64_in _ (by omega)
            have m5 : (n : Int) - (i : Int) = (p : Int) := by omega
            have m5' : IntKind.i64.wrap (p : Int) = (p : Int) := IntWalk.i64_in _ (by omega)
            have m6 : (0 : Int) ≤ (p : Int) := by omega
            have m7 : (p : Int) < (N : Int) := by omega
            have m8 : IntKind.i64.wrap ((i : Int) + 1) = ((i + 1 : Nat) : Int) := IntWalk.i64_in _ (by omega)
            have m9 : IntKind.u8.wrap (y : Int) = (y : Int) := by rw [IntKind.wrap_u8]; omega
            have hcase : (d2 < 0 ∧ d2 + 256 = (y : Int) ∧ kr8 M D (i + 1) = 1) ∨ (¬ d2 < 0 ∧ d2 = (y : Int) ∧ kr8 M D (i + 1) = 0) := by omega
            have HV := Lib.hid (And.intro hb (And.intro hW (And.intro hy (And.intro hp hyl))))
            have m10 : IntKind.i64.wrap (y : Int) = (y : Int) := IntWalk.i64_in _ (by omega)
            clear hb hW kd ks kl hx hy hk hz hxl hp hyl hbD hlow
            rcases hcase with ⟨q1, q2, q3⟩ | ⟨q1, q2, q3⟩
            · have HQ := Lib.hid q3
              clear q3
              go_wp2_with fail
              go_quiet ((go_at_call 33; exact Calls.quiet_of_same ((HC.out _).mono fun _ _ ⟨h, k⟩ => ⟨h, k.symm⟩)))
              go_wp2_with fail
              obtain ⟨hb, hW, hy, hp, hyl⟩ := HV.out
              have hbn : Bk (wr.drewN nq) w0 N (lowF n i D fun p => S / 256 ^ (n - p) % 256) := hb
              have hWn : Below w0 w (wr.drewN nq) := hW.trans ⟨rfl, rfl, rfl, Nat.le_refl _, fun _ _ => rfl⟩
              exact ⟨⟨i + 1, by omega, congrArg (Value.int .i64) (by omega), by rw [HQ.out]; rfl, (hbn.set p y hyl).congr fun j hj => by rw [← hp, ← hy]; exact lowF_step n i D _ (by omega) j (by omega), hWn.setCell (p := ⟨w0, p, none⟩) (Nat.le_refl _) _⟩, by simp [intOf]; omega⟩
            · subst q2
              have HQ := Lib.hid q3
              clear q3
              go_wp2_with fail
              go_quiet ((go_at_call 33; exact Calls.quiet_of_same ((HC.out _).mono fun _ _ ⟨h, k⟩ => ⟨h, k.symm⟩)))
              go_wp2_with fail
              obtain ⟨hb, hW, hy, hp, hyl⟩ := HV.out
              have hbn : Bk (wr.drewN nq) w0 N (lowF n i D fun p => S / 256 ^ (n - p) % 256) := hb
              have hWn : Below w0 w (wr.drewN nq) := hW.trans ⟨rfl, rfl, rfl, Nat.le_refl _, fun _ _ => rfl⟩
              exact ⟨⟨i + 1, by omega, congrArg (Value.int .i64) (by omega), by rw [HQ.out]; rfl, (hbn.set p y hyl).congr fun j hj => by rw [← hp, ← hy]; exact lowF_step n i D _ (by omega) j (by omega), hWn.setCell (p := ⟨w0, p, none⟩) (Nat.le_refl _) _⟩, by simp [intOf]; omega⟩
          · obtain rfl : N = i := by omega
            have HE := Lib.hid (And.intro hb hW)
            clear hb hW hBW
            go_wp2_with fail
            go_ret
            obtain ⟨hb, hW⟩ := HE.out
            rw [HMOD.out]
            refine ⟨⟨_, rfl, hb.bto1 hN hb.lt (tb_len _ _) (by omega) (fun j u hu => ?_) (tb_lt _ _)⟩, hW⟩
            have hj : j < n := by
              by_cases e : j < n
              · exact e
              · rw [List.getElem?_eq_none (by rw [tb_len]; omega)] at hu; cases hu
            rw [tb_get D n j hj] at hu
            injection hu with hu
            unfold lowF
            rw [if_pos (by omega), ← hu, show n - (j + 1) = n - 1 - j by omega]
      · have ho : ordN S M = -1 := by unfold ordN; rw [if_pos (by omega)]
        have hmod : S % M = S := Nat.mod_eq_of_lt (by omega)
        rw [ho] at HOr
        have HMOD := Lib.hid hmod
        clear ho hmod hc hS hSd HS hn1
        go_wp2_with (first | (go_at_call 17; refine HOr.out.mono ?_; rintro e w1 ⟨rfl, rfl⟩) | fail)
        go_ret
        obtain ⟨hb, hW⟩ := hBW.out
        rw [HMOD.out]
        refine ⟨⟨_, rfl, hb.bto1 hN hb.lt (tb_len _ _) (by omega) (fun j u hu => ?_) (tb_lt _ _)⟩, hW⟩
        have hj : j < n := by
          by_cases e : j < n
          · exact e
          · rw [List.getElem?_eq_none (by rw [tb_len]; omega)] at hu; cases hu
        rw [tb_get S n j hj] at hu
        injection hu with hu
        rw [← hu, show n - (j + 1) = n - 1 - j by omega]
end Go.Proofs.YtjkniebedgiclaaDoor

/- big: the reference: one, Rest. -/
namespace Go.Proofs.YtjkniebedgiclaaDoor
open Go.RowKit Go.Shelf

theorem bv_noughts (n : Nat) : bv (List.replicate n 0) = 0 := by
  induction n with
  | zero => rfl
  | succ n ih => rw [List.replicate_succ, bv_cons, ih]; omega
theorem bv_tbl {r : Nat} {m : List Nat} (hm : ∀ x ∈ m, x < 256) (h : r < bv m) : bv (tb r m.length) = r := by
  have := bv_lt m hm
  rw [bv_tb, Nat.mod_eq_of_lt (by omega)]
theorem Bto.isTb {B : Nat} {X : World} {v : Value} {V n : Nat} (h : Bto B X v (tb V n)) : ∃ x c, v = .slice x n c := by
  obtain ⟨_, x, c, e, _⟩ := h
  exact ⟨x, c, by rw [e, tb_len]⟩
theorem made_bto (w : World) (n : Nat) (hn : n ≤ 1000000) (X : World) (hX : w.alloc (.cells (bvs (List.replicate n 0)).toArray 5) = X) : Bto X.heap.size X (.slice (some ⟨w.heap.size, 0, none⟩) n n) (List.replicate n 0) := by
  have h := lit_bto w (List.replicate n 0) (by intro x hx; rw [List.eq_of_mem_replicate hx]; omega) (by simp; exact hn)
  rw [List.length_replicate, hX] at h
  exact h.lift

set_option maxRecDepth 100000 in
set_option maxHeartbeats 4000000 in
theorem rone_any (B : Nat) (v : Value) (m : List Nat) (w : World) (l3 : m.length ≤ 1000) (h3 : Bto B w v m) (hM : 0 < bv m) :
    Calls Tryd.prog 24 #[v] w fun e w' => (∃ v', e = .returned v' ∧ Bto w'.heap.size w' v' (tb (1 % bv m) m.length)) ∧ Below w.heap.size w w' := by
  have H0 := Lib.hid (And.intro h3 hM)
  obtain ⟨_, x3, c3, rfl, _, _, _⟩ := h3
  have hmk := make_bytes m.length (by omega)
  obtain ⟨X, hX⟩ : ∃ X, w.alloc (.cells (bvs (List.replicate m.length 0)).toArray 5) = X := ⟨_, rfl⟩
  have hC : Below w.heap.size w X := by rw [← hX]; exact balloc (Below.refl _ w) _
  have hz := made_bto w m.length (by omega) X hX
  obtain ⟨Y, hY⟩ : ∃ Y, X.alloc (.cells #[.int .u8 1] 5) = Y := ⟨_, rfl⟩
  have hD : Below X.heap.size X Y := by rw [← hY]; exact balloc (Below.refl _ X) _
  have h1 : Bto Y.heap.size Y (.slice (some ⟨X.heap.size, 0, none⟩) 1 1) [1] := by
    have h : Bto (X.heap.size + 1) (X.alloc (.cells #[.int .u8 1] 5)) (.slice (some ⟨X.heap.size, 0, none⟩) 1 1) [1] := lit1 X 1 (by omega)
    rw [hY] at h
    exact h.lift
  have hA := radd_any _ _ _ _ _ _ (List.replicate m.length 0) [1] m Y (by simp; omega) (by simp) l3 (hz.new hD) h1 ((H0.out.1.new hC).new hD) (by rw [bv_noughts]; show 0 + 1 < _; have := H0.out.2; omega)
  have e1 : bv (List.replicate m.length 0) + bv [1] = 1 := by rw [bv_noughts]; rfl
  rw [e1] at hA
  have hXs : X.heap.size = w.heap.size + 1 := by rw [← hX, World.size_alloc]
  rw [hXs] at hA
  have HA := Lib.hid (And.intro hA (hC.trans (hD.mono hC.size)))
  have HX := Lib.hid hX
  have HY := Lib.hid hY
  obtain ⟨n, hn⟩ : ∃ n, m.length = n := ⟨_, rfl⟩
  rw [hn] at hmk HX HA ⊢
  clear hX hY hC hD hz h1 hA e1 l3 hn hXs
  go_enter Tryd.func24, Tryd.ntmps24
  go_wp2_with fail
  rw [HX.out]
  go_wp2_with (first | (go_at_call 25; rw [HY.out]; refine HA.out.1.mono ?_; rintro e w2 ⟨⟨v', rfl, hv⟩, hb⟩; have HV := Lib.hid (And.intro hv hb); clear hv hb) | fail)
  go_ret
  exact ⟨⟨_, rfl, HV.out.1⟩, HA.out.2.trans (HV.out.2.mono HA.out.2.size)⟩

/-- What is left of a number. -/
def rsV (a m : List Nat) : Nat := if bv m = 0 then 0 else bv a % bv m
set_option maxRecDepth 100000 in
set_option maxHeartbeats 4000000 in
theorem rrest_any (B1 B2 : Nat) (v1 v2 : Value) (a m : List Nat) (w : World) (l1 : a.length ≤ 1000) (l3 : m.length ≤ 1000) (h1 : Bto B1 w v1 a) (h3 : Bto B2 w v2 m) :
    Calls Tryd.prog 13 #[v1, v2] w fun e w' => (∃ v', e = .returned v' ∧ Bto w'.heap.size w' v' (tb (rsV a m) m.length)) ∧ Below w.heap.size w w' := by
  have H0 := Lib.hid (And.intro h1 h3)
  obtain ⟨_, x3, c3, rfl, _, _, _⟩ := h3
  obtain ⟨_, x1, c1, rfl, _, _, _⟩ := h1
  have hmk := make_bytes m.length (by omega)
  obtain ⟨X, hX⟩ : ∃ X, w.alloc (.cells (bvs (List.replicate m.length 0)).toArray 5) = X := ⟨_, rfl⟩
  have hC : Below w.heap.size w X := by rw [← hX]; exact balloc (Below.refl _ w) _
  have hz := made_bto w m.length (by omega) X hX
  have HBa := Lib.hid (rbits_any _ _ a X (H0.out.1.new hC) l1)
  have HBm := Lib.hid (fun (wr : World) (hb : Below X.heap.size X wr) => rbits_any _ _ m wr ((H0.out.2.new hC).new hb) l3)
  have HZ := Lib.hid (And.intro hC (And.intro hz (And.intro l1 l3)))
  have HX := Lib.hid hX
  have HZl := Lib.hid l3
  obtain ⟨n, hn⟩ : ∃ n, m.length = n := ⟨_, rfl⟩
  obtain ⟨n1, hn1⟩ : ∃ n, a.length = n := ⟨_, rfl⟩
  rw [hn] at hmk HX HBm HZ ⊢
  rw [hn1] at HBa
  have HN := Lib.hid (And.intro hn hn1)
  clear hX hC hz l1 l3
  rw [hn1]
  clear hn hn1
  go_enter Tryd.func13, Tryd.ntmps13
  go_wp2_with fail
  rw [HX.out]
  obtain ⟨T, hT⟩ : ∃ T, em (fb a) = T := ⟨_, rfl⟩
  have hbnT : bn T = bv a := by rw [← hT, em_fb_dz, bn_bits a H0.out.1.1]
  have hTl : T.length ≤ 8000 := by rw [← hT]; have := em_len (fb a); rw [fb_len] at this; have := HZ.out.2.2.1; omega
  obtain ⟨L, hL⟩ : ∃ L, T.length = L := ⟨_, rfl⟩
  obtain ⟨Tm, hTm⟩ : ∃ T, em (fb m) = T := ⟨_, rfl⟩
  have hm0 := em_nil_iff m H0.out.2.1
  rw [hTm] at hm0
  rw [hT] at HBa
  rw [hTm] at HBm
  rw [hL] at hTl
  obtain ⟨Lm, hLm⟩ : ∃ L, Tm.length = L := ⟨_, rfl⟩
  have HL := Lib.hid (And.intro hL hLm)
  have HT := Lib.hid (And.intro hbnT hm0)
  clear hT hTm hL hm0 hbnT
  by_cases hM : bv m = 0
  · obtain rfl : Lm = 0 := by rw [← hLm, HT.out.2.2 hM]; rfl
    have HM := Lib.hid hM
    clear hM hLm
    go_wp2_with (first | (go_at_call 14; first | (with_reducible refine HBa.out.mono ?_; rintro e w1 ⟨⟨va, rfl, ha⟩, hb1⟩; obtain ⟨xa, ca, rfl⟩ := ha.is; rw [HL.out.1]; have HA1 := Lib.hid (And.intro ha.bls hb1); clear ha hb1) | (refine (HBm.out _ HA1.out.2).mono ?_; rintro e w2 ⟨⟨vm, rfl, hm⟩, hb2⟩; obtain ⟨xm, cm, rfl⟩ := hm.is; rw [HL.out.2]; have HA2 := Lib.hid hb2; clear hm hb2)) | fail)
    go_ret
    have hb := HZ.out.1.trans ((HA1.out.2.trans (HA2.out.mono HA1.out.2.size)).mono HZ.out.1.size)
    refine ⟨⟨_, rfl, ?_⟩, hb⟩
    unfold rsV
    rw [if_pos HM.out, tb_zero]
    exact (HZ.out.2.1.new (HA1.out.2.trans (HA2.out.mono HA1.out.2.size))).lift
  · have hLm0 : Lm ≠ 0 := by
      intro e
      exact hM (HT.out.2.1 (List.eq_nil_of_length_eq_zero (by rw [hLm, e])))
    have q0 : ((Lm : Int) == 0) = false := by simp; omega
    have q1 : ¬ ((Lm : Int) = 0) := by omega
    obtain ⟨M, hMM⟩ : ∃ M, bv m = M := ⟨_, rfl⟩
    have HM := Lib.hid (show 0 < M by omega)
    have HMM := Lib.hid hMM
    clear hM hLm hMM hLm0
    go_wp2_with (first | (go_at_call 14; first | (with_reducible refine HBa.out.mono ?_; rintro e w1 ⟨⟨va, rfl, ha⟩, hb1⟩; obtain ⟨xa, ca, rfl⟩ := ha.is; rw [HL.out.1]; have HA1 := Lib.hid (And.intro ha.bls hb1); clear ha hb1) | (refine (HBm.out _ HA1.out.2).mono ?_; rintro e w2 ⟨⟨vm, rfl, hm⟩, hb2⟩; obtain ⟨xm, cm, rfl⟩ := hm.is; rw [HL.out.2]; have HA2 := Lib.hid hb2; clear hm hb2)) | fail)
    clear q0 q1 HBa HBm
    have hbX2 : Below X.heap.size X w2 := HA1.out.2.trans (HA2.out.mono HA1.out.2.size)
    have hb02 : Below w.heap.size w w2 := HZ.out.1.trans (hbX2.mono HZ.out.1.size)
    have hz2 := (HZ.out.2.1.new hbX2).lift
    have hbl := HA1.out.1.new HA2.out
    rw [HL.out.1] at hbl
    have H2 := Lib.hid (And.intro hb02 (And.intro hz2 (And.intro hbl (H0.out.2.new hb02))))
    clear hbX2 hb02 hz2 hbl HA1 HA2 HZ
    go_loopw [5, 7] (fun s t wr => ∃ k : Nat, k ≤ L ∧ t = .int .i64 k ∧ Bto wr.heap.size wr s (tb (bn (T.take k) % M) n) ∧ Below w2.heap.size w2 wr) (fun _ t _ => L - (intOf t).toNat)
    case atStart => exact ⟨0, Nat.zero_le _, rfl, by rw [show bn (T.take 0) = 0 from rfl, Nat.zero_mod, tb_zero]; exact H2.out.2.1, Below.refl _ _⟩
    case round =>
      obtain ⟨k, hk, rfl, hs, hW⟩ := hrel
      have hmw := H2.out.2.2.2.new hW
      have hblw := H2.out.2.2.1.new hW
      obtain ⟨r, hr⟩ : ∃ r, bn (T.take k) % M = r := ⟨_, rfl⟩
      have hrM : r < M := by rw [← hr]; exact Nat.mod_lt _ HM.out
      have hwW := H2.out.1.trans (hW.mono H2.out.1.size)
      obtain ⟨hs1, xs, cs, rfl, hs2, hs3, hs4⟩ := id hs
      by_cases hlt : k < L
      · obtain ⟨t, ht⟩ : ∃ t, T[k]? = some t := ⟨_, List.getElem?_eq_getElem (by have := HL.out.1; omega)⟩
        obtain ⟨xq, cq, hxq, hcq⟩ := hblw
        obtain ⟨g, hg, hgl, hc⟩ := hcq (fun e => by rw [e] at ht; cases ht)
        injection hxq with e1 e2 e3
        rw [← e1] at hg
        subst hg
        have kc := hc k t ht
        have hbk : bn (T.take (k + 1)) = 2 * bn (T.take k) + t.toNat := by rw [List.take_add_one, ht, Option.toList_some, bn_snoc]
        have hst := rtimes_step 1 M (bn (T.take k)) t r (by rw [Nat.one_mul, hr])
        rw [Nat.one_mul, ← hbk] at hst
        have hA := radd_any _ _ _ _ _ _ (tb (bn (T.take k) % M) n) (tb (bn (T.take k) % M) n) m wr (by rw [tb_len, ← HN.out.1]; have := HZl.out; omega) (by rw [tb_len, ← HN.out.1]; have := HZl.out; omega) HZl.out hs hs hmw (by rw [hr, ← HN.out.1, bv_tbl H0.out.2.1 (by rw [HMM.out]; exact hrM), HMM.out]; omega)
        rw [hr, ← HN.out.1, bv_tbl H0.out.2.1 (by rw [HMM.out]; exact hrM), HMM.out, tb_len, HN.out.1] at hA
        have HA := Lib.hid hA
        have g0 : (k : Int) < (L : Int) := by omega
        have g1 : (0 : Int) ≤ (k : Int) := by omega
        have g2 : IntKind.i64.wrap ((k : Int) + 1) = ((k + 1 : Nat) : Int) := IntWalk.i64_in _ (by omega)
        have HS := Lib.hid (And.intro hst (And.intro hW hmw))
        have HO := Lib.hid (fun (Y : World) (hb : Below wr.heap.size wr Y) => rone_any _ _ m Y HZl.out (hmw.new hb) (by rw [HMM.out]; exact HM.out))
        clear hbk hst hA hr hrM hs hs1 hs2 hs3 hs4 hW hmw hwW hc e1 e2 e3 ht hcq
        rw [tb_len]
        cases t
        · go_wp2_with (first | (go_at_call 25; first | (with_reducible refine HA.out.mono ?_; rintro e w3 ⟨⟨v3, rfl, h3⟩, hb3⟩; have kc3 := (hb3.cell (p := ⟨g, k, none⟩) hgl).trans kc; have HO3 := Lib.hid (HO.out w3 hb3); obtain ⟨x3', c3', rfl⟩ := h3.isTb; have H3 := Lib.hid (And.intro h3 hb3); clear h3 hb3 kc) | (refine HA2.out.mono ?_; rintro e w5 ⟨⟨v5, rfl, h5⟩, hb5⟩; have H5 := Lib.hid (And.intro h5 hb5); clear h5 hb5)) | fail)
          have hst := HS.out.1.1 (by simp)
          exact ⟨⟨k + 1, by omega, congrArg (Value.int .i64) (by omega), by rw [← hst]; exact H3.out.1, HS.out.2.1.trans (H3.out.2.mono HS.out.2.1.size)⟩, by simp [intOf]; omega⟩
        · have HA2f := Lib.hid (fun (w3 w4 : World) (v4 : Value) (y3 : Option Addr) (d3 : Nat) (hb4 : Below w3.heap.size w3 w4) (h4 : Bto w4.heap.size w4 v4 (tb (1 % bv m) n)) (h3 : Bto w3.heap.size w3 (.slice y3 n d3) (tb ((r + r) % M) n) ∧ Below wr.heap.size wr w3) => (by
            rw [← HN.out.1] at h4
            have hq := radd_any _ _ _ _ _ _ (tb ((r + r) % M) n) (tb (1 % bv m) m.length) m w4 (by rw [tb_len, ← HN.out.1]; exact HZl.out) (by rw [tb_len]; exact HZl.out) HZl.out (h3.1.new hb4) h4 ((HS.out.2.2.new h3.2).new hb4) (by
              rw [← HN.out.1, bv_tbl H0.out.2.1 (by rw [HMM.out]; exact Nat.mod_lt _ HM.out), bv_tbl H0.out.2.1 (by rw [HMM.out]; exact Nat.mod_lt _ HM.out), HMM.out]
              have q1 := Nat.mod_lt (r + r) HM.out
              have q2 := Nat.mod_lt 1 HM.out
              omega)
            rw [← HN.out.1, bv_tbl H0.out.2.1 (by rw [HMM.out]; exact Nat.mod_lt _ HM.out), bv_tbl H0.out.2.1 (by rw [HMM.out]; exact Nat.mod_lt _ HM.out), HMM.out] at hq
            rw [HN.out.1] at hq
            exact hq : Calls Tryd.prog 25 #[.slice y3 n d3, v4, .slice x3 n c3] w4 fun e w' => (∃ v', e = .returned v' ∧ Bto w'.heap.size w' v' (tb (((r + r) % M + 1 % M) % M) n)) ∧ Below w4.heap.size w4 w'))
          rw [HN.out.1] at HO
          go_wp2_with (first | (go_at_call 25; first | (with_reducible refine HA.out.mono ?_; rintro e w3 ⟨⟨v3, rfl, h3⟩, hb3⟩; have kc3 := (hb3.cell (p := ⟨g, k, none⟩) hgl).trans kc; have HO3 := Lib.hid (HO.out w3 hb3); obtain ⟨x3', c3', rfl⟩ := h3.isTb; have H3 := Lib.hid (And.intro h3 hb3); clear h3 hb3 kc) | (refine HA2.out.mono ?_; rintro e w5 ⟨⟨v5, rfl, h5⟩, hb5⟩; have H5 := Lib.hid (And.intro h5 hb5); clear h5 hb5)) | (go_at_call 24; refine HO3.out.mono ?_; rintro e w4 ⟨⟨v4, rfl, h4⟩, hb4⟩; have HA2 := Lib.hid (HA2f.out _ w4 v4 x3' c3' hb4 h4 H3.out); have H4 := Lib.hid hb4; clear h4 hb4) | fail)
          have hst := HS.out.1.2 (by simp)
          have hb35 := H4.out.trans (H5.out.2.mono H4.out.size)
          exact ⟨⟨k + 1, by omega, congrArg (Value.int .i64) (by omega), by rw [← hst]; exact H5.out.1, HS.out.2.1.trans ((H3.out.2.trans (hb35.mono H3.out.2.size)).mono HS.out.2.1.size)⟩, by simp [intOf]; omega⟩
      · obtain rfl : k = L := by omega
        have hT : T.take k = T := List.take_of_length_le (by rw [HL.out.1]; exact Nat.le_refl _)
        have hv : rsV a m = r := by unfold rsV; rw [if_neg (by rw [HMM.out]; have := HM.out; omega), HMM.out, ← hr, hT, HT.out.1]
        rw [hr] at hs
        have HE := Lib.hid (And.intro hv (And.intro hs hwW))
        rw [tb_len] at HE ⊢
        clear hT hv hr hs hs1 hs2 hs3 hs4 hW hmw hwW hblw hrM
        go_wp2_with fail
        go_ret
        refine ⟨⟨_, rfl, ?_⟩, HE.out.2.2⟩
        rw [HE.out.1]
        exact HE.out.2.1
end Go.Proofs.YtjkniebedgiclaaDoor

/- big: the reference: Times. -/
namespace Go.Proofs.YtjkniebedgiclaaDoor
open Go.RowKit Go.Shelf

set_option maxRecDepth 100000 in
set_option maxHeartbeats 4000000 in
theorem rtimes_any (B1 B2 B3 : Nat) (v1 v2 v3 : Value) (a b m : List Nat) (w : World) (l1 : a.length ≤ 1000) (l2 : b.length ≤ 1000) (l3 : m.length ≤ 1000) (h1 : Bto B1 w v1 a) (h2 : Bto B2 w v2 b) (h3 : Bto B3 w v3 m) (hAM : bv a < bv m) :
    Calls Tryd.prog 19 #[v1, v2, v3] w fun e w' => (∃ v', e = .returned v' ∧ Bto w'.heap.size w' v' (tb (bv a * bv b % bv m) m.length)) ∧ Below w.heap.size w w' := by
  have H0 := Lib.hid (And.intro h1 (And.intro h2 h3))
  obtain ⟨_, x3, c3, rfl, _, _, _⟩ := h3
  obtain ⟨_, x2, c2, rfl, _, _, _⟩ := h2
  obtain ⟨_, x1, c1, rfl, _, _, _⟩ := h1
  have hmk := make_bytes m.length (by omega)
  obtain ⟨X, hX⟩ : ∃ X, w.alloc (.cells (bvs (List.replicate m.length 0)).toArray 5) = X := ⟨_, rfl⟩
  have hC : Below w.heap.size w X := by rw [← hX]; exact balloc (Below.refl _ w) _
  have hz := made_bto w m.length (by omega) X hX
  have HBa := Lib.hid (rbits_any _ _ b X (H0.out.2.1.new hC) l2)
  have HZ := Lib.hid (And.intro hC (And.intro hz l2))
  have HX := Lib.hid hX
  have HZl := Lib.hid (And.intro l3 l1)
  obtain ⟨n, hn⟩ : ∃ n, m.length = n := ⟨_, rfl⟩
  obtain ⟨n1, hn1⟩ : ∃ n, a.length = n := ⟨_, rfl⟩
  obtain ⟨n2, hn2⟩ : ∃ n, b.length = n := ⟨_, rfl⟩
  obtain ⟨M, hMM⟩ : ∃ M, bv m = M := ⟨_, rfl⟩
  obtain ⟨A, hAA⟩ : ∃ M, bv a = M := ⟨_, rfl⟩
  rw [hn] at hmk HX HZ ⊢
  rw [hn2] at HBa ⊢
  rw [hAA, hMM] at hAM ⊢
  have HN := Lib.hid (And.intro hn hn1)
  have HM := Lib.hid (show 0 < M by omega)
  have HMM := Lib.hid hMM
  have HAA := Lib.hid (And.intro hAA hAM)
  clear hX hC hz l1 l2 l3 hMM hAA hAM
  rw [hn1]
  clear hn hn1 hn2
  obtain ⟨T, hT⟩ : ∃ T, em (fb b) = T := ⟨_, rfl⟩
  have hbnT : bn T = bv b := by rw [← hT, em_fb_dz, bn_bits b H0.out.2.1.1]
  have hTl : T.length ≤ 8000 := by rw [← hT]; have := em_len (fb b); rw [fb_len] at this; have := HZ.out.2.2; omega
  obtain ⟨L, hL⟩ : ∃ L, T.length = L := ⟨_, rfl⟩
  rw [hT] at HBa
  rw [hL] at hTl
  have HL := Lib.hid hL
  rw [← hbnT]
  clear hT hL hbnT
  go_enter Tryd.func19, Tryd.ntmps19
  go_wp2_with fail
  rw [HX.out]
  go_wp2_with (first | (go_at_call 14; refine HBa.out.mono ?_; rintro e w2 ⟨⟨va, rfl, ha⟩, hb1⟩; obtain ⟨xa, ca, rfl⟩ := ha.is; rw [HL.out]; have HA1 := Lib.hid (And.intro ha.bls hb1); clear ha hb1) | fail)
  clear HBa
  have hb02 : Below w.heap.size w w2 := HZ.out.1.trans (HA1.out.2.mono HZ.out.1.size)
  have hz2 := (HZ.out.2.1.new HA1.out.2).lift
  have hbl := HA1.out.1
  rw [HL.out] at hbl
  have H2 := Lib.hid (And.intro hb02 (And.intro hz2 (And.intro hbl (And.intro (H0.out.2.2.new hb02) (H0.out.1.new hb02)))))
  clear hb02 hz2 hbl HA1 HZ
  go_loopw [7, 9] (fun s t wr => ∃ k : Nat, k ≤ L ∧ t = .int .i64 k ∧ Bto wr.heap.size wr s (tb (A * bn (T.take k) % M) n) ∧ Below w2.heap.size w2 wr) (fun _ t _ => L - (intOf t).toNat)
  case atStart => exact ⟨0, Nat.zero_le _, rfl, by rw [show bn (T.take 0) = 0 from rfl, Nat.mul_zero, Nat.zero_mod, tb_zero]; exact H2.out.2.1, Below.refl _ _⟩
  case round =>
    obtain ⟨k, hk, rfl, hs, hW⟩ := hrel
    have hmw := H2.out.2.2.2.1.new hW
    have haw := H2.out.2.2.2.2.new hW
    have hblw := H2.out.2.2.1.new hW
    obtain ⟨r, hr⟩ : ∃ r, A * bn (T.take k) % M = r := ⟨_, rfl⟩
    have hrM : r < M := by rw [← hr]; exact Nat.mod_lt _ HM.out
    have hwW := H2.out.1.trans (hW.mono H2.out.1.size)
    obtain ⟨hs1, xs, cs, rfl, hs2, hs3, hs4⟩ := id hs
    by_cases hlt : k < L
    · obtain ⟨t, ht⟩ : ∃ t, T[k]? = some t := ⟨_, List.getElem?_eq_getElem (by have := HL.out; omega)⟩
      obtain ⟨xq, cq, hxq, hcq⟩ := hblw
      obtain ⟨g, hg, hgl, hc⟩ := hcq (fun e => by rw [e] at ht; cases ht)
      injection hxq with e1 e2 e3
      rw [← e1] at hg
      subst hg
      have kc := hc k t ht
      have hbk : bn (T.take (k + 1)) = 2 * bn (T.take k) + t.toNat := by rw [List.take_add_one, ht, Option.toList_some, bn_snoc]
      have hst := rtimes_step A M (bn (T.take k)) t r hr.symm
      rw [← hbk, Nat.mod_eq_of_lt HAA.out.2] at hst
      have hA := radd_any _ _ _ _ _ _ (tb (A * bn (T.take k) % M) n) (tb (A * bn (T.take k) % M) n) m wr (by rw [tb_len, ← HN.out.1]; exact HZl.out.1) (by rw [tb_len, ← HN.out.1]; exact HZl.out.1) HZl.out.1 hs hs hmw (by rw [hr, ← HN.out.1, bv_tbl H0.out.2.2.1 (by rw [HMM.out]; exact hrM), HMM.out]; omega)
      rw [hr, ← HN.out.1, bv_tbl H0.out.2.2.1 (by rw [HMM.out]; exact hrM), HMM.out, tb_len, HN.out.1] at hA
      have HA := Lib.hid hA
      have g0 : (k : Int) < (L : Int) := by omega
      have g1 : (0 : Int) ≤ (k : Int) := by omega
      have g2 : IntKind.i64.wrap ((k : Int) + 1) = ((k + 1 : Nat) : Int) := IntWalk.i64_in _ (by omega)
      have HS := Lib.hid (And.intro hst (And.intro hW (And.intro hmw haw)))
      clear hbk hst hA hr hrM hs hs1 hs2 hs3 hs4 hW hmw haw hwW hc e1 e2 e3 ht hcq
      rw [tb_len]
      cases t
      · go_wp2_with (first | (go_at_call 25; refine HA.out.mono ?_; rintro e w3 ⟨⟨v3, rfl, h3⟩, hb3⟩; have kc3 := (hb3.cell (p := ⟨g, k, none⟩) hgl).trans kc; obtain ⟨x3', c3', rfl⟩ := h3.isTb; have H3 := Lib.hid (And.intro h3 hb3); clear h3 hb3 kc) | fail)
        have hst := HS.out.1.1 (by simp)
        exact ⟨⟨k + 1, by omega, congrArg (Value.int .i64) (by omega), by rw [← hst]; exact H3.out.1, HS.out.2.1.trans (H3.out.2.mono HS.out.2.1.size)⟩, by simp [intOf]; omega⟩
      · have HA2f := Lib.hid (fun (w3 : World) (y3 : Option Addr) (d3 : Nat) (h3 : Bto w3.heap.size w3 (.slice y3 n d3) (tb ((r + r) % M) n)) (hb3 : Below wr.heap.size wr w3) => (by
          have hq := radd_any _ _ _ _ _ _ (tb ((r + r) % M) n) a m w3 (by rw [tb_len, ← HN.out.1]; exact HZl.out.1) HZl.out.2 HZl.out.1 h3 (HS.out.2.2.2.new hb3) (HS.out.2.2.1.new hb3) (by
            rw [← HN.out.1, bv_tbl H0.out.2.2.1 (by rw [HMM.out]; exact Nat.mod_lt _ HM.out), HMM.out, HAA.out.1]
            have q1 := Nat.mod_lt (r + r) HM.out
            have q2 := HAA.out.2
            omega)
          rw [← HN.out.1, bv_tbl H0.out.2.2.1 (by rw [HMM.out]; exact Nat.mod_lt _ HM.out), HMM.out, HAA.out.1] at hq
          rw [HN.out.1, HN.out.2] at hq
          exact hq : Calls Tryd.prog 25 #[.slice y3 n d3, .slice x1 n1 c1, .slice x3 n c3] w3 fun e w' => (∃ v', e = .returned v' ∧ Bto w'.heap.size w' v' (tb (((r + r) % M + A) % M) n)) ∧ Below w3.heap.size w3 w'))
        go_wp2_with (first | (go_at_call 25; first | (with_reducible refine HA.out.mono ?_; rintro e w3 ⟨⟨v3, rfl, h3⟩, hb3⟩; have kc3 := (hb3.cell (p := ⟨g, k, none⟩) hgl).trans kc; obtain ⟨x3', c3', rfl⟩ := h3.isTb; have HA2 := Lib.hid (HA2f.out _ _ _ h3 hb3); have H3 := Lib.hid (And.intro h3 hb3); clear h3 hb3 kc) | (refine HA2.out.mono ?_; rintro e w5 ⟨⟨v5, rfl, h5⟩, hb5⟩; have H5 := Lib.hid (And.intro h5 hb5); clear h5 hb5)) | fail)
        have hst := HS.out.1.2 (by simp)
        exact ⟨⟨k + 1, by omega, congrArg (Value.int .i64) (by omega), by rw [← hst]; exact H5.out.1, HS.out.2.1.trans ((H3.out.2.trans (H5.out.2.mono H3.out.2.size)).mono HS.out.2.1.size)⟩, by simp [intOf]; omega⟩
    · obtain rfl : k = L := by omega
      have hT : T.take k = T := List.take_of_length_le (by rw [HL.out]; exact Nat.le_refl _)
      rw [hT] at hr
      rw [hT, hr] at hs
      have HE := Lib.hid (And.intro hr (And.intro hs hwW))
      rw [tb_len] at HE ⊢
      clear hT hr hs hs1 hs2 hs3 hs4 hW hmw haw hwW hblw hrM
      go_wp2_with fail
      go_ret
      refine ⟨⟨_, rfl, ?_⟩, HE.out.2.2⟩
      rw [HE.out.1]
      exact HE.out.2.1
end Go.Proofs.YtjkniebedgiclaaDoor

/- big: the reference: Power. -/
namespace Go.Proofs.YtjkniebedgiclaaDoor
open Go.RowKit Go.Shelf

set_option maxRecDepth 100000 in
set_option maxHeartbeats 4000000 in
theorem rpower_any (B1 B2 B3 : Nat) (v1 v2 v3 : Value) (a b m : List Nat) (w : World) (l1 : a.length ≤ 128) (l2 : b.length ≤ 128) (l3 : m.length ≤ 128) (h1 : Bto B1 w v1 a) (h2 : Bto B2 w v2 b) (h3 : Bto B3 w v3 m) :
    Calls Tryd.prog 11 #[v1, v2, v3] w fun e w' => (∃ v', e = .returned (.tuple #[v', .int .i64 0]) ∧ Bto w'.heap.size w' v' (tb (pwV a b m) m.length)) ∧ Below w.heap.size w w' := by
  have H0 := Lib.hid (And.intro h1 (And.intro h2 h3))
  obtain ⟨_, x3, c3, rfl, _, _, _⟩ := h3
  obtain ⟨_, x2, c2, rfl, _, _, _⟩ := h2
  obtain ⟨_, x1, c1, rfl, _, _, _⟩ := h1
  have hmk := make_bytes m.length (by omega)
  have HBm := Lib.hid (rbits_any _ _ m w H0.out.2.2 (by omega))
  have HR := Lib.hid (fun (wr : World) (hb : Below w.heap.size w wr) => rrest_any _ _ _ _ a m wr (by omega) (by omega) (H0.out.1.new hb) (H0.out.2.2.new hb))
  have HO := Lib.hid (fun (hM : 0 < bv m) (wr : World) (hb : Below w.heap.size w wr) => rone_any _ _ m wr (by omega) (H0.out.2.2.new hb) hM)
  have HBn := Lib.hid (fun (wr : World) (hb : Below w.heap.size w wr) => rbits_any _ _ b wr (H0.out.2.1.new hb) (by omega))
  have HZl := Lib.hid (And.intro l3 (And.intro l1 l2))
  have k1 : ¬ (128 : Int) < (a.length : Int) := by omega
  have k2 : ¬ (128 : Int) < (b.length : Int) := by omega
  have k3 : ¬ (128 : Int) < (m.length : Int) := by omega
  obtain ⟨n, hn⟩ : ∃ n, m.length = n := ⟨_, rfl⟩
  obtain ⟨n1, hn1⟩ : ∃ n, a.length = n := ⟨_, rfl⟩
  obtain ⟨n2, hn2⟩ : ∃ n, b.length = n := ⟨_, rfl⟩
  rw [hn] at hmk HR HO HBm k3 ⊢
  rw [hn2] at HBn k2 ⊢
  rw [hn1] at HR k1 ⊢
  have HN := Lib.hid (And.intro hn (And.intro hn1 hn2))
  clear l1 l2 l3 hn hn1 hn2
  obtain ⟨Tm, hTm⟩ : ∃ T, em (fb m) = T := ⟨_, rfl⟩
  have hm0 := em_nil_iff m H0.out.2.2.1
  rw [hTm] at hm0
  rw [hTm] at HBm
  obtain ⟨Lm, hLm⟩ : ∃ L, Tm.length = L := ⟨_, rfl⟩
  obtain ⟨T, hT⟩ : ∃ T, em (fb b) = T := ⟨_, rfl⟩
  have hbnT : bn T = bv b := by rw [← hT, em_fb_dz, bn_bits b H0.out.2.1.1]
  have hTl : T.length ≤ 8000 := by rw [← hT]; have := em_len (fb b); rw [fb_len] at this; have := HZl.out.2.2; omega
  obtain ⟨L, hL⟩ : ∃ L, T.length = L := ⟨_, rfl⟩
  rw [hT] at HBn
  rw [hL] at hTl
  have HL := Lib.hid (And.intro hL hLm)
  have HT := Lib.hid (And.intro hbnT hm0)
  unfold pwV
  clear hT hL hTm hbnT hm0
  by_cases hM : bv m = 0
  · obtain rfl : Lm = 0 := by rw [← hLm, HT.out.2.2 hM]; rfl
    rw [if_pos hM, tb_zero]
    have HMK := Lib.hid (fun (X : World) => made_bto X n (by rw [← HN.out.1]; have := HZl.out.1; omega) _ rfl)
    clear hM hLm
    go_enter Tryd.func11, Tryd.ntmps11
    go_wp2_with (first | (go_at_call 14; refine HBm.out.mono ?_; rintro e w2 ⟨⟨vm, rfl, hm⟩, hb2⟩; obtain ⟨xm, cm, rfl⟩ := hm.is; rw [HL.out.2]; have HA2 := Lib.hid hb2; clear hm hb2) | fail)
    go_ret2
    exact ⟨⟨_, rfl, HMK.out w2⟩, balloc HA2.out _⟩
  · have hLm0 : Lm ≠ 0 := by
      intro e
      exact hM (HT.out.2.1 (List.eq_nil_of_length_eq_zero (by rw [hLm, e])))
    have q0 : ((Lm : Int) == 0) = false := by simp; omega
    have q1 : ¬ ((Lm : Int) = 0) := by omega
    rw [if_neg hM]
    have hrs : rsV a m = bv a % bv m := by unfold rsV; rw [if_neg hM]
    rw [hrs] at HR
    obtain ⟨M, hMM⟩ : ∃ M, bv m = M := ⟨_, rfl⟩
    obtain ⟨A, hAA⟩ : ∃ M, bv a = M := ⟨_, rfl⟩
    rw [hMM, hAA] at HR
    rw [hMM] at HO
    rw [hMM, hAA, ← HT.out.1]
    have HM := Lib.hid (show 0 < M by omega)
    have HMM := Lib.hid hMM
    clear hM hLm hMM hLm0 hAA hrs hmk
    go_enter Tryd.func11, Tryd.ntmps11
    go_wp2_with (first | (go_at_call 14; first | (with_reducible refine HBm.out.mono ?_; rintro e w2 ⟨⟨vm, rfl, hm⟩, hb2⟩; obtain ⟨xm, cm, rfl⟩ := hm.is; rw [HL.out.2]; have HA2 := Lib.hid hb2; clear hm hb2) | (refine (HBn.out _ HA4.out.2.2).mono ?_; rintro e w5 ⟨⟨vb, rfl, hb⟩, hb5⟩; obtain ⟨xb, cb, rfl⟩ := hb.is; rw [HL.out.1]; have HA5 := Lib.hid (And.intro hb.bls hb5); clear hb hb5)) | (go_at_call 13; refine (HR.out _ HA2.out).mono ?_; rintro e w3 ⟨⟨v3, rfl, h3⟩, hb3⟩; obtain ⟨x3', c3', rfl⟩ := h3.isTb; have HA3 := Lib.hid (And.intro h3 (HA2.out.trans (hb3.mono HA2.out.size))); clear h3 hb3) | (go_at_call 24; refine (HO.out HM.out _ HA3.out.2).mono ?_; rintro e w4 ⟨⟨v4, rfl, h4⟩, hb4⟩; obtain ⟨x4', c4', rfl⟩ := h4.isTb; have HA4 := Lib.hid (And.intro h4 (And.intro (HA3.out.1.new hb4) (HA3.out.2.trans (hb4.mono HA3.out.2.size)))); clear h4 hb4) | fail)
    clear q0 q1 k1 k2 k3 HBm HR HO HBn
    obtain ⟨h4, h3, hb4⟩ := HA4.out
    have hbl := HA5.out.1
    rw [HL.out.1] at hbl
    have hb5 := hb4.trans (HA5.out.2.mono hb4.size)
    have H2 := Lib.hid (And.intro hb5 (And.intro (h4.new HA5.out.2).lift (And.intro (h3.new HA5.out.2).lift (And.intro hbl (H0.out.2.2.new hb5)))))
    clear h4 h3 hb4 hbl hb5 HA2 HA3 HA4 HA5
    go_loopw [9, 11] (fun s t wr => ∃ k : Nat, k ≤ L ∧ t = .int .i64 k ∧ Bto wr.heap.size wr s (tb (A ^ bn (T.take k) % M) n) ∧ Below w5.heap.size w5 wr) (fun _ t _ => L - (intOf t).toNat)
    case atStart => exact ⟨0, Nat.zero_le _, rfl, by rw [show bn (T.take 0) = 0 from rfl, Nat.pow_zero]; exact H2.out.2.1, Below.refl _ _⟩
    case round =>
      obtain ⟨k, hk, rfl, hs, hW⟩ := hrel
      have hmw := H2.out.2.2.2.2.new hW
      have hew := H2.out.2.2.1.new hW
      have hblw := H2.out.2.2.2.1.new hW
      obtain ⟨r, hr⟩ : ∃ r, A ^ bn (T.take k) % M = r := ⟨_, rfl⟩
      have hrM : r < M := by rw [← hr]; exact Nat.mod_lt _ HM.out
      have hwW := H2.out.1.trans (hW.mono H2.out.1.size)
      obtain ⟨hs1, xs, cs, rfl, hs2, hs3, hs4⟩ := id hs
      by_cases hlt : k < L
      · obtain ⟨t, ht⟩ : ∃ t, T[k]? = some t := ⟨_, List.getElem?_eq_getElem (by have := HL.out.1; omega)⟩
        obtain ⟨xq, cq, hxq, hcq⟩ := hblw
        obtain ⟨g, hg, hgl, hc⟩ := hcq (fun e => by rw [e] at ht; cases ht)
        injection hxq with e1 e2 e3
        rw [← e1] at hg
        subst hg
        have kc := hc k t ht
        have hbk : bn (T.take (k + 1)) = 2 * bn (T.take k) + t.toNat := by rw [List.take_add_one, ht, Option.toList_some, bn_snoc]
        have hst := pow_bit A M (bn (T.take k)) t r (r * r % M) (A % M) hr.symm rfl rfl
        rw [← hbk] at hst
        have hnl : n ≤ 128 := by rw [← HN.out.1]; exact HZl.out.1
        have hA := rtimes_any _ _ _ _ _ _ (tb (A ^ bn (T.take k) % M) n) (tb (A ^ bn (T.take k) % M) n) m wr (by rw [tb_len]; omega) (by rw [tb_len]; omega) (by have := HZl.out.1; omega) hs hs hmw (by rw [hr, ← HN.out.1, bv_tbl H0.out.2.2.1 (by rw [HMM.out]; exact hrM), HMM.out]; exact hrM)
        rw [hr, ← HN.out.1, bv_tbl H0.out.2.2.1 (by rw [HMM.out]; exact hrM), HMM.out, tb_len, HN.out.1] at hA
        have HA := Lib.hid hA
        have g0 : (k : Int) < (L : Int) := by omega
        have g1 : (0 : Int) ≤ (k : Int) := by omega
        have g2 : IntKind.i64.wrap ((k : Int) + 1) = ((k + 1 : Nat) : Int) := IntWalk.i64_in _ (by omega)
        have HS := Lib.hid (And.intro hst (And.intro hW (And.intro hmw (And.intro hew hnl))))
        clear hbk hst hA hr hrM hs hs1 hs2 hs3 hs4 hW hmw hew hwW hc e1 e2 e3 ht hcq hnl
        rw [tb_len]
        cases t
        · go_wp2_with (first | (go_at_call 19; refine HA.out.mono ?_; rintro e w3 ⟨⟨v3, rfl, h3⟩, hb3⟩; have kc3 := (hb3.cell (p := ⟨g, k, none⟩) hgl).trans kc; obtain ⟨x3', c3', rfl⟩ := h3.isTb; have H3 := Lib.hid (And.intro h3 hb3); clear h3 hb3 kc) | fail)
          have hst := HS.out.1.1 (by simp)
          exact ⟨⟨k + 1, by omega, congrArg (Value.int .i64) (by omega), by rw [← hst]; exact H3.out.1, HS.out.2.1.trans (H3.out.2.mono HS.out.2.1.size)⟩, by simp [intOf]; omega⟩
        · have HA2f := Lib.hid (fun (w3 : World) (y3 : Option Addr) (d3 : Nat) (h3 : Bto w3.heap.size w3 (.slice y3 n d3) (tb (r * r % M) n)) (hb3 : Below wr.heap.size wr w3) => (by
            have hq := rtimes_any _ _ _ _ _ _ (tb (r * r % M) n) (tb (A % M) n) m w3 (by rw [tb_len]; have := HS.out.2.2.2.2; omega) (by rw [tb_len]; have := HS.out.2.2.2.2; omega) (by have := HZl.out.1; omega) h3 (HS.out.2.2.2.1.new hb3) (HS.out.2.2.1.new hb3) (by
              rw [← HN.out.1, bv_tbl H0.out.2.2.1 (by rw [HMM.out]; exact Nat.mod_lt _ HM.out), HMM.out]
              exact Nat.mod_lt _ HM.out)
            rw [← HN.out.1, bv_tbl H0.out.2.2.1 (by rw [HMM.out]; exact Nat.mod_lt _ HM.out), bv_tbl H0.out.2.2.1 (by rw [HMM.out]; exact Nat.mod_lt _ HM.out), HMM.out] at hq
            rw [HN.out.1] at hq
            exact hq : Calls Tryd.prog 19 #[.slice y3 n d3, .slice x3' n c3', .slice x3 n c3] w3 fun e w' => (∃ v', e = .returned v' ∧ Bto w'.heap.size w' v' (tb (r * r % M * (A % M) % M) n)) ∧ Below w3.heap.size w3 w'))
          go_wp2_with (first | (go_at_call 19; first | (with_reducible refine HA.out.mono ?_; rintro e w3 ⟨⟨v3, rfl, h3⟩, hb3⟩; have kc3 := (hb3.cell (p := ⟨g, k, none⟩) hgl).trans kc; obtain ⟨x6', c6', rfl⟩ := h3.isTb; have HA2 := Lib.hid (HA2f.out _ _ _ h3 hb3); have H3 := Lib.hid (And.intro h3 hb3); clear h3 hb3 kc) | (refine HA2.out.mono ?_; rintro e w7 ⟨⟨v5, rfl, h5⟩, hb5⟩; have H5 := Lib.hid (And.intro h5 hb5); clear h5 hb5)) | fail)
          have hst := HS.out.1.2 (by simp)
          exact ⟨⟨k + 1, by omega, congrArg (Value.int .i64) (by omega), by rw [← hst]; exact H5.out.1, HS.out.2.1.trans ((H3.out.2.trans (H5.out.2.mono H3.out.2.size)).mono HS.out.2.1.size)⟩, by simp [intOf]; omega⟩
      · obtain rfl : k = L := by omega
        have hT : T.take k = T := List.take_of_length_le (by rw [HL.out.1]; exact Nat.le_refl _)
        rw [hT] at hr
        rw [hT, hr] at hs
        have HE := Lib.hid (And.intro hr (And.intro hs hwW))
        rw [tb_len] at HE ⊢
        clear hT hr hs hs1 hs2 hs3 hs4 hW hmw hew hwW hblw hrM
        go_wp2_with fail
        go_ret2
        refine ⟨⟨_, rfl, ?_⟩, HE.out.2.2⟩
        rw [HE.out.1]
        exact HE.out.2.1
end Go.Proofs.YtjkniebedgiclaaDoor

