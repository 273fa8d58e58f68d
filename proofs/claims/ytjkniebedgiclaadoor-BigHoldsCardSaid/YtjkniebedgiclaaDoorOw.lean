/- big's laws: BigHolds: the walk. -/
import Derived.Test.YtjkniebedgiclaaDoorQa
namespace Go.Proofs.YtjkniebedgiclaaDoor
open Go.RowKit Go.Shelf

/-- Bytes laid behind an own row of bytes, of an argument that has some. -/
theorem wpList_appo {w : World} {ops : Array Oper} {rest : List Oper} {o : Oper} {a : Act} {Q : Exit → Act → World → Prop} (hgd : o.guard = none) (s x : Operand)
    (ho : o.op = .call { callee := .builtin .append, args := #[s, x], argTypes := #[22, 22] })
    (base : Nat) (l : List Nat) (hown : Ow w base (a.eval s) l) (ad : Addr) (cap : Nat) (m : List Nat) (hm : ∀ z ∈ m, z < 256) (he : a.eval x = .slice (some ad) m.length cap) (hc : ∀ k u, m[k]? = some u → w.cell? (ad.add k) = some (.int .u8 (u : Nat))) (hn : l.length + m.length ≤ 1000000) (hb : base ≤ w.heap.size)
    (h : ∀ y c w', Ow w' base (.slice y (l ++ m).length c) (l ++ m) → w.grownBy w' (a.eval s).ownBlock → wpList Tryd.prog ops Q rest (a.put o.dst (.slice y (l ++ m).length c)) w') : wpList Tryd.prog ops Q (o :: rest) a w := by
  obtain ⟨i0, hi, hz0, hz1, hz2⟩ := info_parts' infoU8
  have hu : Tryd.prog.underlying 22 = some (.slice 5) := by kernel_rfl
  refine wpList_append_own _ hgd s x 22 ho base 5 i0 (.int .u8 0) 1 1 hu hi hz0 hz1 hz2 rfl (by decide) _ l.length (bvs l) rfl hown.2 ad m.length cap (bvs m) he (by rw [bvs_len]; omega) ?_ (bvs_one m) (by unfold maxLen; omega) (by omega) hb ?_
  · intro j u hj
    rw [bvs_get] at hj
    cases hmj : m[j]? with
    | none => rw [hmj] at hj; cases hj
    | some v =>
      rw [hmj] at hj
      cases hj
      exact hc j v hmj
  · intro v' w' ho' hg _
    have hO : Ow w' base v' (l ++ m) := ⟨fun z hz => (List.mem_append.1 hz).elim (hown.1 z) (hm z), by rw [← bvs_app, List.length_append]; exact ho'⟩
    obtain ⟨z, c, rfl⟩ := hO.is
    exact h z c w' hO hg
/-- Bytes of an argument laid behind an own row of bytes. -/
theorem wpList_appq {w : World} {ops : Array Oper} {rest : List Oper} {o : Oper} {a : Act} {Q : Exit → Act → World → Prop} (hgd : o.guard = none) (s x : Operand)
    (ho : o.op = .call { callee := .builtin .append, args := #[s, x], argTypes := #[22, 22] })
    (base : Nat) (l : List Nat) (hown : Ow w base (a.eval s) l) (B : Nat) (m : List Nat) (v : Value) (he : a.eval x = v) (hx : Bto B w v m) (hz : ∀ n c, v = .slice none n c → c = 0) (hn : l.length + m.length ≤ 1000000) (hb : base ≤ w.heap.size)
    (h : ∀ y c w', Ow w' base (.slice y (l ++ m).length c) (l ++ m) → w.grownBy w' (a.eval s).ownBlock → wpList Tryd.prog ops Q rest (a.put o.dst (.slice y (l ++ m).length c)) w') : wpList Tryd.prog ops Q (o :: rest) a w := by
  obtain ⟨hm, y, cap, rfl, h3, h4, h5⟩ := hx
  cases y with
  | none =>
    have hm0 : m = [] := by
      refine Classical.byContradiction fun hne => ?_
      obtain ⟨b, o, e, _⟩ := h5 hne
      cases e
    subst hm0
    obtain rfl := hz _ _ rfl
    obtain ⟨i0, hi, _⟩ := info_parts' infoU8
    have hu : Tryd.prog.underlying 22 = some (.slice 5) := by kernel_rfl
    refine wpList_append_own_none hgd s x 22 ho base 5 i0 1 hu hi _ _ _ rfl hown.2 he ?_
    obtain ⟨z, c, hv⟩ := hown.is
    have hE : l ++ ([] : List Nat) = l := by simp
    have h' := h z c w
    rw [hE, ← hv] at h'
    exact h' hown (World.grownBy.refl w _)
  | some ad =>
    refine wpList_appo hgd s x ho base l hown ad cap m hm he (fun k u hu => ?_) hn hb h
    obtain ⟨b, o, e, _, _, hc⟩ := h5 (fun e => by rw [e] at hu; simp at hu)
    cases e
    rw [Go.WideShapes.add_plain]
    exact hc k u hu
/-- Bytes of an argument laid behind an own row of bytes, the sum and its length by names. -/
theorem wpList_appz {w : World} {ops : Array Oper} {rest : List Oper} {o : Oper} {a : Act} {Q : Exit → Act → World → Prop} (hgd : o.guard = none) (s x : Operand)
    (ho : o.op = .call { callee := .builtin .append, args := #[s, x], argTypes := #[22, 22] })
    (base : Nat) (l : List Nat) (hown : Ow w base (a.eval s) l) (B : Nat) (m : List Nat) (v : Value) (he : a.eval x = v) (hx : Bto B w v m) (hz : ∀ n c, v = .slice none n c → c = 0) (hn : l.length + m.length ≤ 1000000) (hb : base ≤ w.heap.size) (z : List Nat) (L : Nat) (hzz : l ++ m = z) (hL : z.length = L)
    (h : ∀ y c w', Ow w' base (.slice y L c) z → w.grownBy w' (a.eval s).ownBlock → wpList Tryd.prog ops Q rest (a.put o.dst (.slice y L c)) w') : wpList Tryd.prog ops Q (o :: rest) a w := by
  subst hzz hL
  exact wpList_appq hgd s x ho base l hown B m v he hx hz hn hb h

theorem ow_00 (w : World) : Ow (w.alloc (.cells #[.int .u8 0, .int .u8 0] 5)) w.heap.size (.slice (some ⟨w.heap.size, 0, none⟩) 2 2) [0, 0] :=
  ⟨by simp, rfl, .inr ⟨w.heap.size, 2, _, rfl, Nat.le_refl _, heap_alloc_new w _, Nat.le_refl _, by unfold maxLen; omega, rfl, rfl⟩⟩
theorem lit3' (w : World) (b c : Nat) (hb : b < 256) (hc : c < 256) : Bto (w.heap.size + 1) (w.alloc (.cells #[.int .u8 0, .int .u8 (b : Nat), .int .u8 (c : Nat)] 5)) (.slice (some ⟨w.heap.size, 0, none⟩) 3 3) [0, b, c] := lit_bto w [0, b, c] (by simp; exact ⟨hb, hc⟩) (by simp)
theorem bv_two (h l : Nat) : bv [h, l] = h * 256 + l := by simp [bv]
theorem bv_00 (a : List Nat) : bv ([0, 0] ++ a) = bv a := by rw [bv_app]; simp [bv]
theorem bv_0 (a : List Nat) : bv (0 :: a) = bv a := by rw [bv_cons]; omega
theorem ordN_less {a b : Nat} (h : a < b) : ordN a b = -1 := by unfold ordN; rw [if_pos h]

set_option maxRecDepth 100000 in
set_option maxHeartbeats 4000000 in
theorem holds_long (x1 x2 : Option Addr) (n1 c1 n2 c2 n : Nat) (w : World) (h : ¬ (n1 ≤ 20 ∧ n2 ≤ 20)) :
    Calls Tryd.prog 6 #[.slice x1 n1 c1, .slice x2 n2 c2, .int .u16 n] w fun e w' => e = .returned (.bool true) ∧ Below w.heap.size w w' := by
  have hF := few2_any w.heap.size n1 c1 n2 c2 x1 x2 (w.alloc (.cells #[.slice x1 n1 c1, .slice x2 n2 c2] 22)) (Blk.new w _ _)
  rw [decide_eq_false h] at hF
  have HF := Lib.hid hF
  have HB := Lib.hid (balloc (Below.refl w.heap.size w) (.cells #[.slice x1 n1 c1, .slice x2 n2 c2] 22))
  clear h hF
  go_enter Tryd.func6, Tryd.ntmps6
  go_wp2_with (first | (go_at_call 7; refine HF.out.mono ?_; rintro e w1 ⟨rfl, rfl⟩) | (go_at_call 8; refine (works_any _).mono ?_; rintro e w9 ⟨rfl, h9⟩; have H9 := Lib.hid h9; clear h9) | fail)
  go_ret
  exact ⟨rfl, HB.out.trans (H9.out.mono HB.out.size)⟩
set_option maxRecDepth 100000 in
set_option maxHeartbeats 4000000 in
theorem holds_most (x1 x2 : Option Addr) (n1 c1 n2 c2 : Nat) (w : World) (h : n1 ≤ 20 ∧ n2 ≤ 20) :
    Calls Tryd.prog 6 #[.slice x1 n1 c1, .slice x2 n2 c2, .int .u16 65535] w fun e w' => e = .returned (.bool true) ∧ Below w.heap.size w w' := by
  have hF := few2_any w.heap.size n1 c1 n2 c2 x1 x2 (w.alloc (.cells #[.slice x1 n1 c1, .slice x2 n2 c2] 22)) (Blk.new w _ _)
  rw [decide_eq_true h] at hF
  have HF := Lib.hid hF
  have HB := Lib.hid (balloc (Below.refl w.heap.size w) (.cells #[.slice x1 n1 c1, .slice x2 n2 c2] 22))
  clear h hF
  go_enter Tryd.func6, Tryd.ntmps6
  go_wp2_with (first | (go_at_call 7; refine HF.out.mono ?_; rintro e w1 ⟨rfl, rfl⟩) | (go_at_call 8; refine (works_any _).mono ?_; rintro e w9 ⟨rfl, h9⟩; have H9 := Lib.hid h9; clear h9) | fail)
  go_ret
  exact ⟨rfl, HB.out.trans (H9.out.mono HB.out.size)⟩
set_option maxRecDepth 100000 in
set_option maxHeartbeats 4000000 in
theorem holds_walk (al ml : List Nat) (x1 x2 : Option Addr) (c1 c2 n : Nat) (w : World) (h1 : al.length ≤ 20) (h2 : ml.length ≤ 20) (hn : n < 65535) (ha : Bto w.heap.size w (.slice x1 al.length c1) al) (hm : Bto w.heap.size w (.slice x2 ml.length c2) ml) (hz : x1 = none → c1 = 0) :
    Calls Tryd.prog 6 #[.slice x1 al.length c1, .slice x2 ml.length c2, .int .u16 n] w fun e w' => e = .returned (.bool true) ∧ Below w.heap.size w w' := by
  have hF := few2_any w.heap.size al.length c1 ml.length c2 x1 x2 (w.alloc (.cells #[.slice x1 al.length c1, .slice x2 ml.length c2] 22)) (Blk.new w _ _)
  rw [decide_eq_true ⟨h1, h2⟩] at hF
  obtain ⟨W1, hW1⟩ : ∃ W1, w.alloc (.cells #[.slice x1 al.length c1, .slice x2 ml.length c2] 22) = W1 := ⟨_, rfl⟩
  have hB1 : Below w.heap.size w W1 := by rw [← hW1]; exact balloc (Below.refl w.heap.size w) _
  have hO := rorder_any W1.heap.size _ _ ml [] W1 (by omega) (by simp) (hm.new hB1).lift (nil_bto _ _)
  rw [hW1] at hF
  rw [show bv [] = 0 from rfl] at hO
  have HW1 := Lib.hid hW1
  have e1 : ¬ ((n : Int) = 65535) := by omega
  have e1b : ((n : Int) == 65535) = false := by simp; omega
  by_cases hM : bv ml = 0
  · rw [hM] at hO
    rw [show ordN 0 0 = 0 from rfl] at hO
    have HF := Lib.hid (And.intro hF (And.intro hO hB1))
    clear hF hO hB1 hM h1 h2 hn ha hm hz hW1
    go_enter Tryd.func6, Tryd.ntmps6
    go_wp2_with (first | (go_at_call 7; rw [HW1.out]; refine HF.out.1.mono ?_; rintro e w1 ⟨rfl, rfl⟩) | (go_at_call 17; refine HF.out.2.1.mono ?_; rintro e w1 ⟨rfl, rfl⟩) | (go_at_call 8; refine (works_any _).mono ?_; rintro e w9 ⟨rfl, h9⟩; have H9 := Lib.hid h9; clear h9) | fail)
    go_ret
    exact ⟨rfl, HF.out.2.2.trans (H9.out.mono HF.out.2.2.size)⟩
  · obtain ⟨M, hMM⟩ : ∃ M, bv ml = M := ⟨_, rfl⟩
    obtain ⟨A, hAA⟩ : ∃ M, bv al = M := ⟨_, rfl⟩
    rw [hMM] at hO hM
    rw [show ordN M 0 = 1 by unfold ordN; rw [if_neg (by omega), if_pos (by omega)]] at hO
    obtain ⟨h, hh⟩ : ∃ h, n / 256 = h := ⟨_, rfl⟩
    obtain ⟨l, hl⟩ : ∃ h, n % 256 = h := ⟨_, rfl⟩
    obtain ⟨m, hmn⟩ : ∃ m, n + 1 = m := ⟨_, rfl⟩
    obtain ⟨h', hh'⟩ : ∃ h, m / 256 = h := ⟨_, rfl⟩
    obtain ⟨l', hl'⟩ : ∃ h, m % 256 = h := ⟨_, rfl⟩
    obtain ⟨k, hk⟩ : ∃ k, ml.length = k := ⟨_, rfl⟩
    obtain ⟨ka, hka⟩ : ∃ k, al.length = k := ⟨_, rfl⟩
    have q1 : (n : Int) / 256 = (h : Int) := by omega
    have q2 : IntKind.u16.wrap (h : Int) = (h : Int) := by rw [IntKind.wrap_u16]; omega
    have q3 : IntKind.u8.wrap (h : Int) = (h : Int) := by rw [IntKind.wrap_u8]; omega
    have q4 : IntKind.u8.wrap (n : Int) = (l : Int) := by rw [IntKind.wrap_u8]; omega
    have q5 : (n : Int) + 1 = (m : Int) := by omega
    have q6 : IntKind.u16.wrap (m : Int) = (m : Int) := by rw [IntKind.wrap_u16]; omega
    have q7 : (m : Int) / 256 = (h' : Int) := by omega
    have q8 : IntKind.u16.wrap (h' : Int) = (h' : Int) := by rw [IntKind.wrap_u16]; omega
    have q9 : IntKind.u8.wrap (h' : Int) = (h' : Int) := by rw [IntKind.wrap_u8]; omega
    have q10 : IntKind.u8.wrap (m : Int) = (l' : Int) := by rw [IntKind.wrap_u8]; omega
    have v1 : ∀ a : List Nat, bv a = A → pwV a [h, l] ml = A ^ n % M := fun a e => by unfold pwV; rw [hMM, if_neg hM, e, bv_two, show h * 256 + l = n by omega]
    have v2 : ∀ a : List Nat, bv a = A → pwV a [0, h', l'] ml = A ^ m % M := fun a e => by unfold pwV; rw [hMM, if_neg hM, e, bv_0, bv_two, show h' * 256 + l' = m by omega]
    have v3 : pwV al [1] ml = A ^ 1 % M := by unfold pwV; rw [hMM, if_neg hM, hAA]; rfl
    have hp1 : ∀ Y, Below W1.heap.size W1 Y → Calls Tryd.prog 9 #[.slice x1 al.length c1, .slice (some ⟨Y.heap.size, 0, none⟩) 2 2, .slice x2 ml.length c2] (Y.alloc (.cells #[.int .u8 (h : Nat), .int .u8 (l : Nat)] 5)) fun e w' => (∃ v, e = .returned (.tuple #[v, .int .i64 0]) ∧ Bto w'.heap.size w' v (tb (A ^ n % M) ml.length)) ∧ Below Y.heap.size Y w' := fun Y hY => by
      have hw := hB1.trans (hY.mono hB1.size)
      have hy := balloc (Below.refl Y.heap.size Y) (.cells #[.int .u8 (h : Nat), .int .u8 (l : Nat)] 5)
      have hp := power_any _ _ _ _ al [h, l] ml _ (by omega) (by simp) (by omega) ((((ha.new hw).lift).new hy).mono (Nat.le_succ _)) (lit2 Y h l (by omega) (by omega)) ((((hm.new hw).lift).new hy).mono (Nat.le_succ _))
      rw [v1 al hAA] at hp
      exact hp.mono fun e w' ⟨g1, g2⟩ => ⟨g1, hy.trans (g2.mono (by simp))⟩
    obtain ⟨z, hzz⟩ : ∃ z, [0, 0] ++ al = z := ⟨_, rfl⟩
    obtain ⟨L, hL⟩ : ∃ L, z.length = L := ⟨_, rfl⟩
    have hL22 : L ≤ 22 := by rw [← hL, ← hzz]; simp; omega
    have hbz : bv z = A := by rw [← hzz, bv_00, hAA]
    have hp2 : ∀ Y (y : Option Addr) c base, Below W1.heap.size W1 Y → Ow Y base (.slice y L c) z → Calls Tryd.prog 9 #[.slice y L c, .slice (some ⟨Y.heap.size, 0, none⟩) 3 3, .slice x2 ml.length c2] (Y.alloc (.cells #[.int .u8 0, .int .u8 (h' : Nat), .int .u8 (l' : Nat)] 5)) fun e w' => (∃ v, e = .returned (.tuple #[v, .int .i64 0]) ∧ Bto w'.heap.size w' v (tb (A ^ m % M) ml.length)) ∧ Below Y.heap.size Y w' := fun Y y c base hY ho => by
      have hw := hB1.trans (hY.mono hB1.size)
      have hy := balloc (Below.refl Y.heap.size Y) (.cells #[.int .u8 0, .int .u8 (h' : Nat), .int .u8 (l' : Nat)] 5)
      have hp := power_any _ _ _ _ z [0, h', l'] ml _ (by omega) (by simp) (by omega) ((ho.bto.new hy).mono (Nat.le_succ _)) (lit3' Y h' l' (by omega) (by omega)) ((((hm.new hw).lift).new hy).mono (Nat.le_succ _))
      rw [v2 z hbz] at hp
      exact hp.mono fun e w' ⟨g1, g2⟩ => ⟨g1, hy.trans (g2.mono (by simp))⟩
    have hp3 : ∀ Y, Below W1.heap.size W1 Y → Calls Tryd.prog 10 #[.slice x1 al.length c1, .slice x2 ml.length c2] Y fun e w' => (∃ v, e = .returned (.tuple #[v, .int .i64 0]) ∧ Bto w'.heap.size w' v (tb (A ^ 1 % M) ml.length)) ∧ Below Y.heap.size Y w' := fun Y hY => by
      have hw := hB1.trans (hY.mono hB1.size)
      have hp := rest_of _ _ _ al ml Y (by omega) (by omega) (ha.new hw) (hm.new hw)
      rw [v3] at hp
      exact hp
    have hord : ∀ Y (x : Option Addr) c V, V < M → Below W1.heap.size W1 Y → Bto Y.heap.size Y (.slice x ml.length c) (tb V ml.length) → Calls Tryd.prog 17 #[.slice x ml.length c, .slice x2 ml.length c2] Y fun e w' => e = .returned (.int .i64 (-1)) ∧ Y = w' := fun Y x c V hV hY hb => by
      have hw := hB1.trans (hY.mono hB1.size)
      have hp := rorder_any Y.heap.size _ _ (tb V ml.length) ml Y (by rw [tb_len]; omega) (by omega) hb (hm.new hw).lift
      rw [bv_tbl hm.1 (by rw [hMM]; exact hV), hMM, ordN_less hV] at hp
      exact hp
    have htim : ∀ Y (x r : Option Addr) c cr, Below W1.heap.size W1 Y → Bto Y.heap.size Y (.slice x ml.length c) (tb (A ^ n % M) ml.length) → Bto Y.heap.size Y (.slice r ml.length cr) (tb (A ^ 1 % M) ml.length) → Calls Tryd.prog 19 #[.slice x ml.length c, .slice r ml.length cr, .slice x2 ml.length c2] Y fun e w' => (∃ v', e = .returned v' ∧ Bto w'.heap.size w' v' (tb (A ^ m % M) ml.length)) ∧ Below Y.heap.size Y w' := fun Y x r c cr hY hx hr => by
      have hw := hB1.trans (hY.mono hB1.size)
      have hM0 : 0 < M := by omega
      have hp := rtimes_any _ _ _ _ _ _ (tb (A ^ n % M) ml.length) (tb (A ^ 1 % M) ml.length) ml Y (by rw [tb_len]; omega) (by rw [tb_len]; omega) (by omega) hx hr (hm.new hw) (by rw [bv_tbl hm.1 (by rw [hMM]; exact Nat.mod_lt _ hM0), hMM]; exact Nat.mod_lt _ hM0)
      rw [bv_tbl hm.1 (by rw [hMM]; exact Nat.mod_lt _ hM0), bv_tbl hm.1 (by rw [hMM]; exact Nat.mod_lt _ hM0), hMM, ← Nat.mul_mod, ← Nat.pow_add, hmn] at hp
      exact hp
    have hax : ∀ Y, Below W1.heap.size W1 Y → Bto Y.heap.size Y (.slice x1 al.length c1) al := fun Y hY => (ha.new (hB1.trans (hY.mono hB1.size))).lift
    have hzc : ∀ n' c, Value.slice x1 al.length c1 = .slice none n' c → c = 0 := fun n' c e => by injection e with g1 g2 g3; rw [← g3]; exact hz g1
    have hX1 : A ^ n % M < M := Nat.mod_lt _ (by omega)
    have hX2 : A ^ 1 % M < M := Nat.mod_lt _ (by omega)
    obtain ⟨X1, hX1e⟩ : ∃ X, A ^ n % M = X := ⟨_, rfl⟩
    obtain ⟨X2, hX2e⟩ : ∃ X, A ^ m % M = X := ⟨_, rfl⟩
    obtain ⟨X3, hX3e⟩ : ∃ X, A ^ 1 % M = X := ⟨_, rfl⟩
    rw [hX1e] at hp1 htim hX1
    rw [hX2e] at hp2 htim
    rw [hX3e] at hp3 htim hX2
    have hal : ([0, 0] : List Nat).length + al.length ≤ 1000000 := by simp; omega
    have hk20 : k ≤ 20 := by omega
    rw [hk] at hp1 hp2 hp3 hord htim hO HW1 ⊢
    rw [hka] at hp1 hp3 HW1 hax hzc ⊢
    have HF := Lib.hid (And.intro hF (And.intro hO hB1))
    have HP := Lib.hid (And.intro hp1 (And.intro hp2 (And.intro hp3 (And.intro hord (And.intro htim (And.intro hax (And.intro hzc (And.intro hX1 (And.intro hX2 (And.intro hzz (And.intro hL (And.intro hka hal))))))))))))
    clear hF hO hB1 h1 h2 hn ha hm hz hW1 hp1 hp2 hp3 hord htim hax hzc hX1 hX2 hX1e hX2e hX3e v1 v2 v3 hMM hAA hh hl hmn hh' hl' hk hka hzz hL hbz hM hal hL22
    go_enter Tryd.func6, Tryd.ntmps6
    go_upto_region 8 with (first | (go_at_call 7; rw [HW1.out]; refine HF.out.1.mono ?_; rintro e w1 ⟨rfl, rfl⟩) | (go_at_call 17; first | (with_reducible refine HF.out.2.1.mono ?_; rintro e w1 ⟨rfl, rfl⟩) | (with_reducible refine (HP.out.2.2.2.1 _ _ _ _ HP.out.2.2.2.2.2.2.2.1 H5.out.1 H5.out.2.1).mono ?_; rintro e w1 ⟨rfl, rfl⟩) | (with_reducible refine (HP.out.2.2.2.1 _ _ _ _ HP.out.2.2.2.2.2.2.2.2.1 H5.out.1 H5.out.2.2.2).mono ?_; rintro e w1 ⟨rfl, rfl⟩)) | (go_at_call 9; first | (with_reducible refine (HP.out.1 _ (Below.refl _ _)).mono ?_; rintro e w2 ⟨⟨v2, rfl, g2⟩, hb2⟩; obtain ⟨y2, d2, rfl⟩ := g2.isTb; have H2 := Lib.hid (And.intro g2 hb2); clear g2 hb2) | (refine (HP.out.2.1 _ _ _ _ H3.out.1 H3.out.2.1).mono ?_; rintro e w4 ⟨⟨v4, rfl, g4⟩, hb4⟩; obtain ⟨y4, d4, rfl⟩ := g4.isTb; have H4 := Lib.hid (And.intro g4 hb4); clear g4 hb4)) | (at_builtin; refine wpList_appz rfl _ _ rfl w2.heap.size [0, 0] (ow_00 w2) _ al _ rfl ((HP.out.2.2.2.2.2.1 _ H2.out.2).new (balloc (Below.refl _ w2) _)) HP.out.2.2.2.2.2.2.1 HP.out.2.2.2.2.2.2.2.2.2.2.2.2 (by simp) z L HP.out.2.2.2.2.2.2.2.2.2.1 HP.out.2.2.2.2.2.2.2.2.2.2.1 ?_; intro y3 d3 w3 g3 hg3; have hb3 := (balloc (Below.refl w2.heap.size w2) _).grown hg3 (by simp) (fun k e => by cases e; exact Nat.le_refl _); have H3 := Lib.hid (And.intro (H2.out.2.trans (hb3.mono H2.out.2.size)) (And.intro g3 hb3)); clear g3 hg3 hb3) | (go_at_call 10; refine (HP.out.2.2.1 _ (H3.out.1.trans (H4.out.2.mono H3.out.1.size))).mono ?_; rintro e w5 ⟨⟨v5, rfl, g5⟩, hb5⟩; obtain ⟨y5, d5, rfl⟩ := g5.isTb; have hq := H3.out.1.trans (H4.out.2.mono H3.out.1.size); have H5 := Lib.hid (And.intro (hq.trans (hb5.mono hq.size)) (And.intro ((H2.out.1.new (H3.out.2.2.trans ((H4.out.2.trans (hb5.mono H4.out.2.size)).mono H3.out.2.2.size))).lift) (And.intro (H4.out.1.new hb5).lift g5))); clear g5 hb5 hq) | (go_at_call 12; refine (num_any _ _).mono ?_; rintro e w8 ⟨rfl, rfl⟩) | fail)
    --REG8
    have hlen : ∀ V : Nat, (tb V k).length ≤ 100000 := fun V => by rw [tb_len]; omega
    have HC4 := Lib.hid (fun (Y : World) (hY : Below w5.heap.size w5 Y) => (by
      have h := conv_byteso _ _ _ Y (H5.out.2.2.1.new hY) (hlen X2)
      exact h : (convert 22 9 (.slice y4 k d4)).run Tryd.prog Y = .ok (.string (toS (tb X2 k))) Y))
    have HT := Lib.hid (HP.out.2.2.2.2.1 w5.drew y2 y5 d2 d5 (H5.out.1.trans ⟨rfl, rfl, rfl, Nat.le_refl _, fun _ _ => rfl⟩) H5.out.2.1 H5.out.2.2.2)
    have hS0 : Below w5.heap.size w5 w5.drew := ⟨rfl, rfl, rfl, Nat.le_refl _, fun _ _ => rfl⟩
    have HL := Lib.hid hlen
    clear hlen
    refine wp_region_held_drew (S := fun w' => Below w5.heap.size w5 w') (by as_aux_lemma => kernel_rfl) hS0 (fun hHeld => ?_)
    simp only [List.size_toArray, List.length_cons, List.length_nil, Nat.reduceAdd, Array.replicate_succ, Array.replicate_zero, List.push_toArray, List.nil_append, List.cons_append]
    refine wpAnyH_take (i := 0) (oi := { dst := some 104, op := Op.move (Operand.tmp 9), type := 22, pos := "law.go:119", after := #[], guard := none }) (v := ?vq0) rfl (by as_aux_lemma => kernel_rfl) (by as_aux_lemma => kernel_rfl) (by as_aux_lemma => kernel_rfl) (fun _ _ _ h => h) (Or.inl ⟨by rfl, ?yq0⟩) (by assumption) ?rq0
    case yq0 => (intro w hSw; (try dsimp only at hSw); have cy := HC4.out w hSw; go_simp <;> with_reducible rfl)
    simp only [Act.put, List.setIfInBounds_toArray, List.set_cons_zero, List.set_cons_succ]
    refine wpAnyH_take (i := 1) (oi := { dst := some 105, op := Op.convert 22 9 (Operand.tmp 104), type := 9, pos := "law.go:119", after := #[{ on := 0, ground := Ground.data }], guard := none }) (v := ?vq1) rfl (by as_aux_lemma => kernel_rfl) (by as_aux_lemma => kernel_rfl) (by as_aux_lemma => kernel_rfl) (fun _ _ _ h => h) (Or.inl ⟨by rfl, ?yq1⟩) (by assumption) ?rq1
    case yq1 => (intro w hSw; (try dsimp only at hSw); have cy := HC4.out w hSw; go_simp <;> with_reducible rfl)
    simp only [Act.put, List.setIfInBounds_toArray, List.set_cons_zero, List.set_cons_succ]
    refine wpAnyH_take (i := 2) (oi := { dst := some 106, op := Op.move (Operand.tmp 7), type := 22, pos := "law.go:119", after := #[], guard := none }) (v := ?vq2) rfl (by as_aux_lemma => kernel_rfl) (by as_aux_lemma => kernel_rfl) (by as_aux_lemma => kernel_rfl) (fun _ _ _ h => h) (Or.inl ⟨by rfl, ?yq2⟩) (by assumption) ?rq2
    case yq2 => (intro w hSw; (try dsimp only at hSw); have cy := HC4.out w hSw; go_simp <;> with_reducible rfl)
    simp only [Act.put, List.setIfInBounds_toArray, List.set_cons_zero, List.set_cons_succ]
    refine wpAnyH_take (i := 3) (oi := { dst := some 107, op := Op.move (Operand.tmp 11), type := 22, pos := "law.go:119", after := #[], guard := none }) (v := ?vq3) rfl (by as_aux_lemma => kernel_rfl) (by as_aux_lemma => kernel_rfl) (by as_aux_lemma => kernel_rfl) (fun _ _ _ h => h) (Or.inl ⟨by rfl, ?yq3⟩) (by assumption) ?rq3
    case yq3 => (intro w hSw; (try dsimp only at hSw); have cy := HC4.out w hSw; go_simp <;> with_reducible rfl)
    simp only [Act.put, List.setIfInBounds_toArray, List.set_cons_zero, List.set_cons_succ]
    refine wpAnyH_take (i := 4) (oi := { dst := some 108, op := Op.move (Operand.tmp 1), type := 22, pos := "law.go:119", after := #[], guard := none }) (v := ?vq4) rfl (by as_aux_lemma => kernel_rfl) (by as_aux_lemma => kernel_rfl) (by as_aux_lemma => kernel_rfl) (fun _ _ _ h => h) (Or.inl ⟨by rfl, ?yq4⟩) (by assumption) ?rq4
    case yq4 => (intro w hSw; (try dsimp only at hSw); have cy := HC4.out w hSw; go_simp <;> with_reducible rfl)
    simp only [Act.put, List.setIfInBounds_toArray, List.set_cons_zero, List.set_cons_succ]
    refine wpAnyH_ready (rs := [5]) (by as_aux_lemma => kernel_rfl) (by simp) ?_
    refine AllReadyH.cons (o := { dst := some 109, op := Op.call { callee := Callee.value (Operand.func 19), args := #[Operand.tmp 106, Operand.tmp 107, Operand.tmp 108], argTypes := #[22, 22, 22] }, type := 22, pos := "law.go:119", after := #[{ on := 2, ground := Ground.data }, { on := 3, ground := Ground.data }, { on := 4, ground := Ground.data }], guard := none }) rfl (fun K hK => ?_) (by exact AllReadyH.nil)
    rw [if_pos (by rfl)]
    go_simp
    (go_at_call 19; refine HT.out.mono ?_; rintro e w6 ⟨⟨v6, rfl, g6⟩, hb6⟩)
    have HB6 := Lib.hid (show Below w5.heap.size w5 w6 from hS0.trans hb6)
    have cv6 := conv_byteso _ _ _ w6 g6 (HL.out X2)
    clear g6 hb6
    refine hK.out _ _ (by (try dsimp only); (first | exact hS0 | exact HB6.out | exact HB9.out)) (fun hHeld => ?_)
    clear hK K
    simp only [List.setIfInBounds_toArray, List.set_cons_zero, List.set_cons_succ]
    refine wpAnyH_ready (rs := [6]) (by as_aux_lemma => kernel_rfl) (by simp) ?_
    refine AllReadyH.cons (o := { dst := some 110, op := Op.convert 22 9 (Operand.tmp 109), type := 9, pos := "law.go:119", after := #[{ on := 5, ground := Ground.data }], guard := none }) rfl (fun K hK => ?_) (by exact AllReadyH.nil)
    rw [if_pos (by rfl)]
    go_simp
    refine hK.out _ _ (by (try dsimp only); (first | exact hS0 | exact HB6.out | exact HB9.out)) (fun hHeld => ?_)
    clear hK K
    simp only [List.setIfInBounds_toArray, List.set_cons_zero, List.set_cons_succ]
    refine wpAnyH_take (i := 7) (oi := { dst := some 111, op := Op.binOp BinOp.eql 9 (Operand.tmp 105) (Operand.tmp 110) 9, type := 4, pos := "law.go:119", after := #[{ on := 1, ground := Ground.data }, { on := 6, ground := Ground.data }], guard := none }) (v := ?vq7) rfl (by as_aux_lemma => kernel_rfl) (by as_aux_lemma => kernel_rfl) (by as_aux_lemma => kernel_rfl) (fun _ _ _ h => h) (Or.inl ⟨by rfl, ?yq7⟩) (by assumption) ?rq7
    case yq7 => (intro w hSw; (try dsimp only at hSw); have cy := HC4.out w hSw; go_simp <;> with_reducible rfl)
    simp only [Act.put, List.setIfInBounds_toArray, List.set_cons_zero, List.set_cons_succ]
    refine wpAnyH_take (i := 8) (oi := { dst := some 112, op := Op.move (Operand.tmp 111), type := 4, pos := "law.go:119", after := #[{ on := 7, ground := Ground.data }, { on := 5, ground := Ground.chain }], guard := none }) (v := ?vq8) rfl (by as_aux_lemma => kernel_rfl) (by as_aux_lemma => kernel_rfl) (by as_aux_lemma => kernel_rfl) (fun _ _ _ h => h) (Or.inl ⟨by rfl, ?yq8⟩) (by assumption) ?rq8
    case yq8 => (intro w hSw; (try dsimp only at hSw); have cy := HC4.out w hSw; go_simp <;> with_reducible rfl)
    simp only [Act.put, List.setIfInBounds_toArray, List.set_cons_zero, List.set_cons_succ]
    refine wpAnyH_ready (rs := [9]) (by as_aux_lemma => kernel_rfl) (by simp) ?_
    refine AllReadyH.cons (o := { dst := some 113, op := Op.call { callee := Callee.value (Operand.func 8), args := #[], argTypes := #[] }, type := 4, pos := "law.go:119", after := #[{ on := 8, ground := Ground.chain }, { on := 8, ground := Ground.guard }], guard := some (8, true) }) rfl (fun K hK => ?_) (by exact AllReadyH.nil)
    rw [if_pos (by rfl)]
    go_simp
    (go_at_call 8; refine (works_any _).mono ?_; rintro e w9 ⟨rfl, h9⟩)
    have HB9 := Lib.hid (show Below w5.heap.size w5 w9 from HB6.out.trans (h9.mono HB6.out.size))
    clear h9
    refine hK.out _ _ (by (try dsimp only); (first | exact hS0 | exact HB6.out | exact HB9.out)) (fun hHeld => ?_)
    clear hK K
    simp only [List.setIfInBounds_toArray, List.set_cons_zero, List.set_cons_succ]
    refine wpAnyH_take (i := 10) (oi := { dst := some 114, op := Op.pick (Operand.tmp 112) (Operand.tmp 113) (Operand.const (Value.bool false)), type := 4, pos := "law.go:119", after := #[{ on := 8, ground := Ground.data }, { on := 9, ground := Ground.data }], guard := none }) (v := ?vq10) rfl (by as_aux_lemma => kernel_rfl) (by as_aux_lemma => kernel_rfl) (by as_aux_lemma => kernel_rfl) (fun _ _ _ h => h) (Or.inl ⟨by rfl, ?yq10⟩) (by assumption) ?rq10
    case yq10 => (intro w hSw; (try dsimp only at hSw); have cy := HC4.out w hSw; go_simp <;> with_reducible rfl)
    simp only [Act.put, List.setIfInBounds_toArray, List.set_cons_zero, List.set_cons_succ]
    refine wpAnyH_take (i := 11) (oi := { dst := some 6, op := Op.assign (Operand.tmp 114), type := 4, pos := "law.go:119", after := #[{ on := 10, ground := Ground.data }, { on := 9, ground := Ground.chain }, { on := 0, ground := Ground.phase }, { on := 1, ground := Ground.phase }, { on := 2, ground := Ground.phase }, { on := 3, ground := Ground.phase }, { on := 4, ground := Ground.phase }, { on := 5, ground := Ground.phase }, { on := 6, ground := Ground.phase }, { on := 7, ground := Ground.phase }, { on := 8, ground := Ground.phase }, { on := 9, ground := Ground.phase }, { on := 10, ground := Ground.phase }], guard := none }) (v := ?vq11) rfl (by as_aux_lemma => kernel_rfl) (by as_aux_lemma => kernel_rfl) (by as_aux_lemma => kernel_rfl) (fun _ _ _ h => h) (Or.inl ⟨by rfl, ?yq11⟩) (by assumption) ?rq11
    case yq11 => (intro w hSw; (try dsimp only at hSw); have cy := HC4.out w hSw; go_simp <;> with_reducible rfl)
    simp only [Act.put, List.setIfInBounds_toArray, List.set_cons_zero, List.set_cons_succ]
    refine wpAnyH_done (by as_aux_lemma => kernel_rfl) ?_ _
    clear hHeld hS0
    go_wp2_with fail
    go_ret
    exact ⟨rfl, HF.out.2.2.trans ((H5.out.1.trans (HB9.out.mono H5.out.1.size)).mono HF.out.2.2.size)⟩
end Go.Proofs.YtjkniebedgiclaaDoor
