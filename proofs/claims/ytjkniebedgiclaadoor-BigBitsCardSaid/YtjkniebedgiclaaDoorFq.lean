/- big: the digits of bytes. -/
import Derived.Test.YtjkniebedgiclaaDoorFo
import Derived.Test.YtjkniebedgiclaaDoorFp
namespace Go.Proofs.YtjkniebedgiclaaDoor
open Go.RowKit Go.Shelf

theorem Bto.bytes {B : Nat} {X : World} {v : Value} {l : List Nat} (h : Bto B X v l) : ∀ x ∈ l, x < 256 := h.1
theorem Btn.new {B : Nat} {X Y : World} {v : Value} {l : List Nat} (h : Btn B X v l) (k : Below X.heap.size X Y) : Btn B Y v l := ⟨h.1.new k, h.2⟩
theorem shl_or8 (a c : Nat) (hc : c < 256) : (a * 256) ||| c = a * 256 + c := by
  have h2 := Nat.two_pow_add_eq_or_of_lt (i := 8) hc a
  rw [show 2 ^ 8 * a = a * 256 from Nat.mul_comm _ _] at h2
  exact h2.symm
set_option maxRecDepth 100000 in
set_option maxHeartbeats 1000000 in
theorem lay8_any (a c : Nat) (ha : a < 72057594037927936) (hc : c < 256) (w : World) :
    Calls Tryd.prog 50 #[.int .u64 a, .int .u8 c] w fun e w' => e = .returned (.int .u64 (a * 256 + c : Nat)) ∧ w = w' := by
  have h1 : (a : Int) * 256 = ((a * 256 : Nat) : Int) := by omega
  have h2 : IntKind.u64.wrap ((a * 256 : Nat) : Int) = ((a * 256 : Nat) : Int) := wrapN _ (by omega)
  have h3 : bits .or .u64 ((a * 256 : Nat) : Int) (c : Int) = ((a * 256 + c : Nat) : Int) := by rw [bits_or_u64_nat _ _ (by omega) (by omega), shl_or8 a c hc]
  have h4 : IntKind.u64.wrap (c : Int) = (c : Int) := wrapN _ (by omega)
  obtain ⟨x, hx⟩ : ∃ x, a * 256 = x := ⟨_, rfl⟩
  rw [hx] at h1 h2 h3 ⊢
  clear ha hc hx
  go_enter Tryd.func50, Tryd.ntmps50
  go_wp2_with fail
  go_ret
  exact ⟨rfl, rfl⟩

set_option maxRecDepth 100000 in
set_option maxHeartbeats 2000000 in
theorem foldb_any (b o n cap : Nat) (l : List Nat) (hln : l.length = n) (hl : n ≤ 8) (w : World) (hb : ∀ x ∈ l, x < 256) (hc : ∀ k u, l[k]? = some u → w.cell? ⟨b, o + k, none⟩ = some (.int .u8 (u : Nat))) :
    Calls Tryd.prog 49 #[.int .u64 0, .func (.func 50) #[] #[], .slice (some ⟨b, o, none⟩) n cap] w fun e w' => e = .returned (.int .u64 (bv l : Nat)) ∧ w = w' := by
  have HL := Lib.hid (And.intro hln (And.intro hb hc))
  clear hln hb hc
  go_enter Tryd.func49, Tryd.ntmps49
  go_wp2_with fail
  go_loopw [0, 11] (fun s i wr => ∃ k : Nat, k ≤ n ∧ i = .int .i64 k ∧ s = .int .u64 (bv (l.take k) : Nat) ∧ w = wr) (fun _ i _ => n - (intOf i).toNat)
  case atStart => exact ⟨0, Nat.zero_le _, rfl, rfl, rfl⟩
  case round =>
    obtain ⟨k, hk, rfl, rfl, rfl⟩ := hrel
    by_cases hlt : k < n
    · have hkl : k < l.length := by rw [HL.out.1]; exact hlt
      have hu := List.getElem?_eq_getElem hkl
      obtain ⟨u, hue⟩ : ∃ u, l[k] = u := ⟨_, rfl⟩
      rw [hue] at hu
      have hcc := HL.out.2.2 k u hu
      have hub : u < 256 := HL.out.2.1 u (List.mem_of_getElem? hu)
      have hv := bv_lt (l.take k) fun x hx => HL.out.2.1 x (List.mem_of_mem_take hx)
      rw [List.length_take, show min k l.length = k by omega] at hv
      have h7 : 256 ^ k ≤ 256 ^ 7 := Nat.pow_le_pow_right (by omega) (by omega)
      have e7 : (256 : Nat) ^ 7 = 72057594037927936 := by decide
      have hstep : bv (l.take (k + 1)) = bv (l.take k) * 256 + u := by rw [List.take_add_one, hu, Option.toList_some, bv_snoc]
      obtain ⟨a, ha⟩ : ∃ a, bv (l.take k) = a := ⟨_, rfl⟩
      rw [ha] at hv hstep ⊢
      have HA := Lib.hid (lay8_any a u (by omega) hub w)
      have HS := Lib.hid hstep
      have hkI : (k : Int) < (n : Int) := by omega
      have hk0 : (0 : Int) ≤ (k : Int) := by omega
      have w3 : IntKind.i64.wrap ((k : Int) + 1) = ((k + 1 : Nat) : Int) := IntWalk.i64_in _ (by omega)
      clear hu hue hub hv h7 e7 hstep ha
      go_wp2_with (first | (go_at_call 50; refine HA.out.mono ?_; rintro e w1 ⟨rfl, rfl⟩) | fail)
      exact ⟨⟨k + 1, by omega, by go_num, by rw [HS.out]; exact congrArg (Value.int .u64) (by omega), trivial⟩, by simp [intOf]; omega⟩
    · obtain rfl : k = n := by omega
      have he : bv (l.take k) = bv l := by rw [List.take_of_length_le (by have := HL.out.1; omega)]
      have HE := Lib.hid he
      clear he
      go_wp2_with fail
      go_ret
      rw [← HE.out]
      exact ⟨rfl, rfl⟩
/-- An own row of digits. -/
def OwD (X : World) (base : Nat) (v : Value) (l : List Nat) : Prop := (∀ x ∈ l, x < B64) ∧ X.ownsRow base 72 1 v l.length (l.map fun x => Value.int .u64 (x : Nat))
theorem OwD.is {X : World} {base : Nat} {v : Value} {l : List Nat} (h : OwD X base v l) : ∃ x c, v = .slice x l.length c ∧ l.length ≤ c := by
  rcases h.2.2 with ⟨hv, hn⟩ | ⟨g, cap, cur, hv, hb, hg, hn, hc, _, _⟩
  · exact ⟨none, 0, by rw [hv, hn], by omega⟩
  · exact ⟨some ⟨g, 0, none⟩, cap, hv, hn⟩
theorem OwD.nil (X : World) (base : Nat) : OwD X base (.slice none 0 0) [] := ⟨by simp, World.ownsRow_nil _ _ _ _⟩
theorem OwD.kept {X Y : World} {base : Nat} {v : Value} {l : List Nat} {row : Option Nat} (h : OwD X base v l) (hg : X.grownBy Y row) (hne : ∀ r, row = some r → r < base) : OwD Y base v l := by
  refine ⟨h.1, h.2.kept hg ?_⟩
  cases hv : v.ownBlock with
  | none => exact .inl rfl
  | some k => exact .inr fun e => by have := (h.2.lt k hv).1; have := hne k e.symm; omega
theorem OwD.new {X Y : World} {base : Nat} {v : Value} {l : List Nat} (h : OwD X base v l) (k : Below X.heap.size X Y) : OwD Y base v l := h.kept (grown_new k) (fun _ e => by cases e)
theorem getD_at (l : List Nat) (i : Nat) (hi : i < l.length) : l.getD i 0 = l[i] := by rw [List.getD_eq_getElem?_getD, List.getElem?_eq_getElem hi]; rfl
theorem OwD.dk {X : World} {base : Nat} {v : Value} {l : List Nat} (h : OwD X base v l) (hl : l ≠ []) : ∃ g c, v = .slice (some ⟨g, 0, none⟩) l.length c ∧ l.length ≤ c ∧ base ≤ g ∧ Dk X g l.length (fun i => l.getD i 0) := by
  rcases h.2.2 with ⟨hv, hn⟩ | ⟨g, cap, cur, hv, hb, hg, hn, hc, hs, ht⟩
  · exact (hl (List.eq_nil_of_length_eq_zero hn)).elim
  · refine ⟨g, cap, hv, hn, hb, cur, hg, fun i hi => ?_, fun i hi => ?_⟩
    · rw [Nat.mul_one] at ht
      have h1 : (cur.toList.take l.length)[i]? = (l.map fun x => Value.int .u64 (x : Nat))[i]? := by rw [ht]
      rw [List.getElem?_take_of_lt hi, List.getElem?_map, Array.getElem?_toList, List.getElem?_eq_getElem hi] at h1
      rw [h1]
      show some (Value.int .u64 (l[i] : Nat)) = some (Value.int .u64 (l.getD i 0 : Nat))
      rw [getD_at l i hi]
    · show l.getD i 0 < B64
      rw [getD_at l i hi]
      exact h.1 _ (List.getElem_mem hi)
set_option maxRecDepth 100000 in
theorem wpList_appd {w : World} {ops : Array Oper} {rest : List Oper} {o : Oper} {a : Act} {Q : Exit → Act → World → Prop} (hgd : o.guard = none) (s x : Operand)
    (ho : o.op = .call { callee := .builtin .append, args := #[s, x], argTypes := #[54, 54] })
    (base : Nat) (l : List Nat) (hown : OwD w base (a.eval s) l) (g d : Nat) (hx : a.eval x = .slice (some ⟨g, 0, none⟩) 1 1) (hd : d < B64) (hc : w.cell? ⟨g, 0, none⟩ = some (.int .u64 d)) (hn : l.length ≤ 1000) (hb : base ≤ w.heap.size)
    (h : ∀ v w', OwD w' base v (l ++ [d]) → w.grownBy w' (a.eval s).ownBlock → wpList Tryd.prog ops Q rest (a.put o.dst v) w') : wpList Tryd.prog ops Q (o :: rest) a w := by
  obtain ⟨i0, hi, hz0, hz1, hz2⟩ := info_parts' info_parts8
  refine wpList_append_own _ hgd s x 54 ho base 72 i0 (.int .u64 0) 1 8 und_u64s hi hz0 hz1 hz2 rfl (by decide) _ l.length _ rfl hown.2 ⟨g, 0, none⟩ 1 1 [.int .u64 d] hx rfl ?_ (fun u hu => by simp at hu; subst hu; rfl) (by unfold maxLen; omega) (by omega) hb ?_
  · intro j u hj
    match j with
    | 0 => injection hj with hj; subst hj; rw [Go.WideShapes.add_plain]; exact hc
    | j + 1 => simp at hj
  · intro v' w' ho' hg _
    refine h v' w' ⟨fun z hz => (List.mem_append.1 hz).elim (hown.1 z) (fun h => by simp at h; omega), ?_⟩ hg
    rw [List.length_append, List.map_append]
    exact ho'
end Go.Proofs.YtjkniebedgiclaaDoor
