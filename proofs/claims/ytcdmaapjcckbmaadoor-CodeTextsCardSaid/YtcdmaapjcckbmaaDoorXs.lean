/- code: bytes as text (bytesText). -/
import Derived.Test.YtcdmaapjcckbmaaDoorXr
import Derived.StillTailTactics
import Derived.Lib.SmallJoins
import Derived.Lib.FrozenHead2
namespace Go.Proofs.YtcdmaapjcckbmaaDoor
open Go.RowKit Go.Shelf

theorem wp_app_run {P : Program} {w : World} {o : Oper} {a : Act} {K : Act → World → Prop} {Q : Exit → Act → World → Prop} (s x : Operand) (t : TypeId)
    (ho : o.op = .call { callee := .builtin .append, args := #[s, x], argTypes := #[t, t] }) {v u v' : Value} {w' : World} (hs : a.eval s = v) (hx : a.eval x = u)
    (hr : (Builtin.append_ #[t, t] o.type #[v, u]).run P w = .ok v' w') (hK : K (a.put o.dst v') w') : Oper.wp P o a w K Q := by
  unfold Oper.wp
  simp [execOp, ho, resolve, invoke, builtin, hs, hx, hr, Result.andThen]
  exact hK
/-- Bytes as a string. -/
def toS (l : List Nat) : ByteArray := ⟨(l.map UInt8.ofNat).toArray⟩
theorem fold_toS (l : List Nat) : ∀ r : ByteArray, (l.map fun n : Nat => (n : Int)).foldl (fun r n => r.push (UInt8.ofNat n.toNat)) r = ⟨r.data ++ (l.map UInt8.ofNat).toArray⟩ := by
  induction l with
  | nil => intro r; simp
  | cons a l ih =>
    intro r
    simp only [List.map_cons, List.foldl_cons]
    rw [ih]
    cases r
    simp [ByteArray.push]
theorem conv_byteso (B : Nat) (v : Value) (l : List Nat) (w : World) (h : Bto B w v l) (hl : l.length ≤ 100000) : (convert 32 9 v).run Tryd.prog w = .ok (.string (toS l)) w := by
  obtain ⟨h1, x, cap, rfl, h3, h4, h5⟩ := h
  rw [run_convert_bytes_string w _ _ 5 x _ _ (by kernel_rfl) (by kernel_rfl) (by kernel_rfl)]
  by_cases h0 : l = []
  · subst h0
    cases x with
    | none => rfl
    | some a =>
      exact run_bytesToString (P := Tryd.prog) w a 0 cap [] (run_loadCells_list (P := Tryd.prog) w a [] (fun j u hj => by simp at hj))
  · obtain ⟨b, o, rfl, _, _, hc⟩ := h5 h0
    have hload : (loadCells ⟨b, o, none⟩ l.length).run Tryd.prog w = .ok ((l.map fun n : Nat => (n : Int)).map (Value.int .u8)).toArray w := by
      have h := run_loadCells_list (P := Tryd.prog) w ⟨b, o, none⟩ (bvs l) (fun j u hj => by
        rw [bvs_get] at hj
        cases hmj : l[j]? with
        | none => rw [hmj] at hj; cases hj
        | some z =>
          rw [hmj] at hj
          cases hj
          rw [Go.WideShapes.add_plain]
          exact hc j z hmj)
      rw [bvs_len] at h
      rw [h, List.map_map]
      rfl
    rw [run_bytesToString w _ _ _ (l.map fun n : Nat => (n : Int)) hload, fold_toS]
    simp [toS]

abbrev hexS : ByteArray := ⟨#[48, 49, 50, 51, 52, 53, 54, 55, 56, 57, 97, 98, 99, 100, 101, 102]⟩
/-- A digit. -/
def hx (d : Nat) : Nat := if d < 10 then 48 + d else 87 + d
theorem hex_ix (d : Nat) (h : d < 16) (w : World) : (Instr.index 9 (.string hexS) (.int .u8 (d : Nat))).run Tryd.prog w = .ok (.int .u8 (hx d : Nat)) w := by
  have : ∀ k : Fin 16, (hexS[k.val]?).map (·.toNat) = some (hx k.val) := by decide +kernel
  have h2 := this ⟨d, h⟩
  cases h3 : hexS[d]? with
  | none => rw [h3] at h2; cases h2
  | some b =>
    rw [h3] at h2
    have h4 : b.toNat = hx d := Option.some.inj h2
    unfold Instr.index
    simp only [run_underlying undStr, asIntOf, Sem.run_bind, Sem.run_pure, Result.andThen_ok]
    rw [if_pos (by omega), Int.toNat_natCast, h3]
    simp [h4]
/-- Bytes as text: 0x and their digits. -/
def hxL (l : List Nat) : List Nat := [48, 120] ++ l.flatMap fun c => [hx (c / 16), hx (c % 16)]
theorem hx_lt (d : Nat) (h : d < 16) : hx d < 256 := by unfold hx; split <;> omega
theorem hxL_snoc (l : List Nat) (c : Nat) : hxL (l ++ [c]) = hxL l ++ [hx (c / 16), hx (c % 16)] := by unfold hxL; simp
theorem hxL_len (l : List Nat) : (hxL l).length = 2 + 2 * l.length := by
  unfold hxL
  induction l with
  | nil => rfl
  | cons c l ih => simp at ih ⊢; omega
theorem conv_lead (w : World) : (convert 32 32 (.slice (some ⟨w.heap.size, 0, none⟩) 2 2)).run Tryd.prog (w.alloc (.cells #[.int .u8 48, .int .u8 120] 5)) = .ok (.slice (some ⟨w.heap.size, 0, none⟩) 2 2) (w.alloc (.cells #[.int .u8 48, .int .u8 120] 5 (2, 3))) :=
  Go.Joins.run_convert_bytes_const_at w 32 5 #[.int .u8 48, .int .u8 120] 2 2 w.heap.size rfl (by kernel_rfl) (by kernel_rfl)
/-- A row of bytes that the call owns, or one that is full and only read. -/
def OwX (X : World) (base : Nat) (v : Value) (l : List Nat) : Prop := Ow X base v l ∨ ((∀ x ∈ l, x < 256) ∧ ∃ g, v = .slice (some ⟨g, 0, none⟩) l.length l.length ∧ base ≤ g ∧ g < X.heap.size ∧ ∀ j u, l[j]? = some u → X.cell? ⟨g, j, none⟩ = some (.int .u8 (u : Nat)))
theorem OwX.new {X Y : World} {base : Nat} {v : Value} {l : List Nat} (h : OwX X base v l) (k : Below X.heap.size X Y) : OwX Y base v l := by
  rcases h with h | ⟨h1, g, h2, h3, h4, h5⟩
  · exact .inl (h.new k)
  · exact .inr ⟨h1, g, h2, h3, Nat.lt_of_lt_of_le h4 k.size, fun j u hj => (cell_heap (p := ⟨g, j, none⟩) (k.block g h4)).trans (h5 j u hj)⟩
theorem OwX.bto {X : World} {base : Nat} {v : Value} {l : List Nat} (h : OwX X base v l) (hl : l.length ≤ 9223372036854775807) : Bto X.heap.size X v l := by
  rcases h with h | ⟨h1, g, h2, h3, h4, h5⟩
  · exact h.bt.bto
  · exact ⟨h1, _, _, h2, Nat.le_refl _, hl, fun _ => ⟨g, 0, rfl, h4, h4, fun k u hu => by rw [Nat.zero_add]; exact h5 k u hu⟩⟩
theorem OwX.is {X : World} {base : Nat} {v : Value} {l : List Nat} (h : OwX X base v l) : ∃ y c, v = .slice y l.length c := by
  rcases h with h | ⟨_, g, h2, _⟩
  · exact h.is
  · exact ⟨_, _, h2⟩
theorem owX_lead (w : World) : OwX (w.alloc (.cells #[.int .u8 48, .int .u8 120] 5 (2, 3))) w.heap.size (.slice (some ⟨w.heap.size, 0, none⟩) 2 2) [48, 120] :=
  .inr ⟨by simp, w.heap.size, rfl, Nat.le_refl _, by simp, fun j u hj => by
    have hb := heap_alloc_new w (.cells #[.int .u8 48, .int .u8 120] 5 (2, 3))
    rw [Lib.cell_of_heap hb]
    rcases j with _ | _ | j
    · simp at hj; subst hj; rfl
    · simp at hj; subst hj; rfl
    · simp at hj⟩
/-- append of two bytes that lie in a new box. -/
theorem app_two (X : World) (base : Nat) (v : Value) (l : List Nat) (a b ty : Nat) (ha : a < 256) (hb : b < 256) (h : OwX X base v l) (hbase : base ≤ X.heap.size) (hl : l.length ≤ 100000) :
    ∃ y c w', (Builtin.append_ #[32, 32] ty #[v, .slice (some ⟨X.heap.size, 0, none⟩) 2 2]).run Tryd.prog (X.alloc (.cells #[.int .u8 (a : Nat), .int .u8 (b : Nat)] 5)) = .ok (.slice y (l ++ [a, b]).length c) w' ∧ Ow w' base (.slice y (l ++ [a, b]).length c) (l ++ [a, b]) ∧ (X.alloc (.cells #[.int .u8 (a : Nat), .int .u8 (b : Nat)] 5)).grownBy w' v.ownBlock := by
  obtain ⟨i0, hi, hz0, hz1, hz2⟩ := info_parts' infoU8
  have hN := Blk.new X 5 #[.int .u8 (a : Nat), .int .u8 (b : Nat)]
  have hnews : ∀ (j : Nat) (u : Value), [Value.int .u8 (a : Nat), .int .u8 (b : Nat)][j]? = some u → (X.alloc (.cells #[.int .u8 (a : Nat), .int .u8 (b : Nat)] 5)).cell? ((⟨X.heap.size, 0, none⟩ : Addr).add j) = some u := by
    intro j u hj
    rw [Go.WideShapes.add_plain, Nat.zero_add]
    rcases j with _ | _ | j
    · simp at hj; subst hj; exact cell_of_row _ _ 0 _ _ _ hN
    · simp at hj; subst hj; exact cell_of_row _ _ 1 _ _ _ hN
    · simp at hj
  have hone : ∀ u ∈ [Value.int .u8 (a : Nat), .int .u8 (b : Nat)], u.oneCell' = true := fun u hu => by
    simp at hu
    rcases hu with rfl | rfl <;> rfl
  have hlt : ∀ z ∈ l ++ [a, b], (∀ x ∈ l, x < 256) → z < 256 := fun z hz hx => by
    rcases List.mem_append.1 hz with h | h
    · exact hx z h
    · simp at h; rcases h with rfl | rfl <;> assumption
  rcases h with h | ⟨h1, g, rfl, h3, h4, h5⟩
  · obtain ⟨v', w', e1, e2, e3, _⟩ := run_append_own (P := Tryd.prog) (X.alloc (.cells #[.int .u8 (a : Nat), .int .u8 (b : Nat)] 5)) base 32 ty 5 i0 (.int .u8 0) 1 1 (by kernel_rfl) hi hz0 hz1 hz2 rfl (by decide) v l.length (bvs l) (World.ownsRow.alloc h.2 _) ⟨X.heap.size, 0, none⟩ 2 2 _ rfl hnews hone (by unfold maxLen; omega) (by omega) (by rw [World.size_alloc]; omega)
    have hO : Ow w' base v' (l ++ [a, b]) := ⟨fun z hz => hlt z hz h.1, by
      rw [← bvs_app, List.length_append]
      exact e2⟩
    obtain ⟨y, c, rfl⟩ := hO.is
    exact ⟨y, c, w', e1, hO, e3⟩
  · have holds : ∀ (j : Nat) (u : Value), (bvs l)[j]? = some u → (X.alloc (.cells #[.int .u8 (a : Nat), .int .u8 (b : Nat)] 5)).cell? ((⟨g, 0, none⟩ : Addr).add j) = some u := fun j u hj => by
      rw [bvs_get] at hj
      cases hu : l[j]? with
      | none => rw [hu] at hj; simp at hj
      | some x =>
        rw [hu] at hj
        simp at hj
        subst hj
        rw [Go.WideShapes.add_plain, Nat.zero_add]
        exact (cell_heap (p := ⟨g, j, none⟩) (Below.heap_alloc _ _ _ h4)).trans (h5 j x hu)
    have hr := run_append_grow (P := Tryd.prog) (X.alloc (.cells #[.int .u8 (a : Nat), .int .u8 (b : Nat)] 5)) 32 ty 5 i0 (.int .u8 0) (by kernel_rfl) hi hz0 ⟨g, 0, none⟩ l.length l.length (bvs l) (by rw [bvs_len, hz1, Nat.mul_one]) holds ⟨X.heap.size, 0, none⟩ 2 2 [Value.int .u8 (a : Nat), .int .u8 (b : Nat)] (by rw [hz1]; rfl) hnews (by omega) (by omega) (growslice_fits (by omega) (by rw [hz2]; omega))
    have hge := grownCap_ge (X.alloc (.cells #[.int .u8 (a : Nat), .int .u8 (b : Nat)] 5)) (l.length + 2) l.length 5
    have hcm := grownCap_le_maxLen (X.alloc (.cells #[.int .u8 (a : Nat), .int .u8 (b : Nat)] 5)) (l.length + 2) l.length 5 (by unfold maxLen; omega)
    have hsz : X.heap.size ≤ (X.alloc (.cells #[.int .u8 (a : Nat), .int .u8 (b : Nat)] 5)).heap.size := by rw [World.size_alloc]; omega
    clear hnews holds hN
    generalize grownCap (X.alloc (.cells #[.int .u8 (a : Nat), .int .u8 (b : Nat)] 5)) (l.length + 2) l.length 5 = cp at hr hge hcm
    have e2 : l.length + 2 = (l ++ [a, b]).length := by simp
    have hO : Ow ((X.alloc (.cells #[.int .u8 (a : Nat), .int .u8 (b : Nat)] 5)).drew.alloc (.cells ((bvs l).toArray ++ #[Value.int .u8 (a : Nat), .int .u8 (b : Nat)] ++ Builtin.zeroCells (Value.int .u8 0).cells (cp - (l.length + 2))) 5)) base (.slice (some ⟨(X.alloc (.cells #[.int .u8 (a : Nat), .int .u8 (b : Nat)] 5)).heap.size, 0, none⟩) (l ++ [a, b]).length cp) (l ++ [a, b]) := by
      refine ⟨fun z hz => hlt z hz h1, by rw [bvs_len, Nat.mul_one], .inr ⟨_, _, _, rfl, Nat.le_trans hbase hsz, heap_alloc_new _ _, by rw [← e2]; exact hge, hcm, ?_, ?_⟩⟩
      · simp [Array.size_append, size_zeroCells, bvs_len, Value.cells]
        omega
      · rw [← bvs_app]
        simp only [Array.toList_append, List.append_assoc]
        rw [← List.append_assoc]
        exact List.take_left' (by simp [bvs])
    rw [e2] at hr hO
    exact ⟨_, _, _, hr, hO, ⟨rfl, rfl, rfl, by simp, fun k hk _ => heap_alloc_old _ _ hk⟩⟩
theorem and15 : ∀ z : Fin 256, bits .and .u8 ((z.val : Nat) : Int) 15 = ((z.val % 16 : Nat) : Int) := by decide +kernel
attribute [local irreducible] hx
attribute [local go_sem] Oper.semAt_some
set_option maxRecDepth 100000 in
set_option maxHeartbeats 4000000 in
theorem bytesText_any (B : Nat) (v : Value) (l : List Nat) (hl : l.length ≤ 1000) (w : World) (hB : B ≤ w.heap.size) (hv : Bto B w v l) : Calls Tryd.prog 48 #[v] w fun e w' => e = .returned (.string (toS (hxL l))) ∧ Below w.heap.size w w' := by
  obtain ⟨x0, c0, rfl⟩ : ∃ x0 c0, v = .slice x0 l.length c0 := by obtain ⟨_, x, c, h, _⟩ := hv; exact ⟨x, c, h⟩
  have HV := Lib.hid hv
  have HL := Lib.hid (And.intro hl hB)
  obtain ⟨n, hn⟩ : ∃ n, l.length = n := ⟨_, rfl⟩
  have HN := Lib.hid hn
  rw [hn] at HV ⊢
  clear hv hl hB hn
  have hcv := conv_lead w
  go_enter Tryd.func48, Tryd.ntmps48
  go_upto_region 2 with fail
  have hO := owX_lead w
  have hW := balloc (Below.refl w.heap.size w) (.cells #[.int .u8 48, .int .u8 120] 5 (2, 3))
  generalize (w.alloc (.cells #[.int .u8 48, .int .u8 120] 5 (2, 3))) = X0 at hO hW ⊢
  have HX := Lib.hid (And.intro hO hW)
  clear hO hW
  go_wp2_with fail
  go_loopw [3, 10] (fun t3 t10 wr => ∃ (k : Nat) (y : Option Addr) (c : Nat), k ≤ n ∧ t3 = .slice y (2 + 2 * k) c ∧ t10 = .int .i64 (k : Nat) ∧ OwX wr w.heap.size (.slice y (2 + 2 * k) c) (hxL (l.take k)) ∧ Below w.heap.size w wr) (fun _ t10 _ => ((n : Int) - intOf t10).toNat)
  case atStart => exact ⟨0, _, _, Nat.zero_le _, rfl, rfl, HX.out.1, HX.out.2⟩
  case round =>
    obtain ⟨k, y, c, hk, rfl, rfl, hO, hW⟩ := hrel
    by_cases hlt : k < n
    · have hvX := HV.out.new hW
      obtain ⟨h1, x, cap, hxx, h3, h4, h5⟩ := hvX
      obtain ⟨b, o, rfl, hbB, hbX, hc⟩ := h5 (by intro e; rw [e] at HN; have := HN.out; simp at this; omega)
      have hkl : k < l.length := by have := HN.out; omega
      have hat : l[k]? = some (l.getD k 0) := by rw [List.getD_eq_getElem?_getD, List.getElem?_eq_getElem hkl]; rfl
      have ck := hc _ _ hat
      injection hxx with hx1 hx2 hx3
      subst hx1; subst hx3
      have hz := h1 _ (List.mem_of_getElem? hat)
      have htk : l.take (k + 1) = l.take k ++ [l.getD k 0] := by rw [List.take_add_one, hat]; rfl
      have hsn := hxL_snoc (l.take k) (l.getD k 0)
      rw [← htk] at hsn
      have hkI : (k : Int) < (n : Int) := by omega
      have hk0 : (0 : Int) ≤ (k : Int) := by omega
      have gk : IntKind.i64.wrap ((k : Int) + 1) = ((k + 1 : Nat) : Int) := by rw [IntWalk.i64_in _ (by have := HL.out; have := HN.out; omega)]; omega
      have HO := Lib.hid (And.intro hO hW)
      have HS := Lib.hid (And.intro hsn (And.intro hz hlt))
      clear h1 h3 h4 h5 hc hat htk hsn hx2 hO hW hk hlt hbB hbX HX
      generalize l.getD k 0 = z at *
      go_upto_region 5 with fail
      have hi1 : ∀ w : World, (Instr.index 9 (.string hexS) (.int .u8 ((z : Int) / 16))).run Tryd.prog w = .ok (.int .u8 (hx (z / 16) : Nat)) w := hex_ix (z / 16) (by omega)
      have hi2 : ∀ w : World, (Instr.index 9 (.string hexS) (.int .u8 (bits .and .u8 (z : Int) 15))).run Tryd.prog w = .ok (.int .u8 (hx (z % 16) : Nat)) w := fun w => by rw [and15 ⟨z, hz⟩]; exact hex_ix (z % 16) (by omega) w
      have hA := hx_lt (z / 16) (by omega)
      have hB := hx_lt (z % 16) (by omega)
      generalize hx (z / 16) = A at *
      generalize hx (z % 16) = D at *
      have hlk : (hxL (l.take k)).length = 2 + 2 * k := by rw [hxL_len, List.length_take]; omega
      have hd : Below wr.heap.size wr wr.drew := ⟨rfl, rfl, rfl, Nat.le_refl _, fun _ _ => rfl⟩
      have hbs : w.heap.size ≤ wr.drew.heap.size := HO.out.2.size
      obtain ⟨y2, c2, w2, hrun, hO2, hG2⟩ := app_two wr.drew w.heap.size (.slice y (2 + 2 * k) c) (hxL (l.take k)) A D 32 hA hB (HO.out.1.new hd) hbs (by rw [hlk]; have := HL.out; have := HN.out; have := HS.out; omega)
      have hl2 : (hxL (l.take k) ++ [A, D]).length = 2 + 2 * (k + 1) := by rw [List.length_append, hlk]; simp; omega
      rw [hl2] at hrun hO2
      rw [← HS.out.1] at hO2
      have hob : ∀ r, (Value.slice y (2 + 2 * k) c).ownBlock = some r → w.heap.size ≤ r := fun r e => by
        rcases HO.out.1 with h | ⟨_, g, h2, h3, _⟩
        · exact (h.2.lt r e).1
        · rw [h2] at e; cases e; exact h3
      have HE : Hid (OwX w2 w.heap.size (.slice y2 (2 + 2 * (k + 1)) c2) (hxL (l.take (k + 1))) ∧ Below w.heap.size w w2) := Lib.hid ⟨.inl hO2, (balloc (HO.out.2.trans (hd.mono HO.out.2.size)) _).grown hG2 (Nat.le_trans hbs (by rw [World.size_alloc]; omega)) hob⟩
      clear hO2 hG2 hob hl2 hbs hd hlk hA hB hz
      refine wp_region_held_drew (S := fun _ => True) (by as_aux_lemma => kernel_rfl) trivial (fun hHeld => ?_)
      simp only [List.size_toArray, List.length_cons, List.length_nil, Nat.reduceAdd, Array.replicate_succ, Array.replicate_zero, List.push_toArray, List.nil_append, List.cons_append]
      refine wpAnyH_take (i := 0) (oi := { dst := some 14, op := Op.move (Operand.tmp 3), type := 32, pos := "code.go:154", after := #[], guard := none }) (v := ?vq0) rfl (by as_aux_lemma => kernel_rfl) (by as_aux_lemma => kernel_rfl) (by as_aux_lemma => kernel_rfl) (fun _ _ _ h => h) (Or.inl ⟨by rfl, ?yq0⟩) (by assumption) ?rq0
      case yq0 => (intro w hSw; (try dsimp only at hSw); go_simp <;> with_reducible rfl)
      simp only [Act.put, List.setIfInBounds_toArray, List.set_cons_zero, List.set_cons_succ]
      refine wpAnyH_take (i := 1) (oi := { dst := some 15, op := Op.move (Operand.tmp 5), type := 5, pos := "code.go:154", after := #[], guard := none }) (v := ?vq1) rfl (by as_aux_lemma => kernel_rfl) (by as_aux_lemma => kernel_rfl) (by as_aux_lemma => kernel_rfl) (fun _ _ _ h => h) (Or.inl ⟨by rfl, ?yq1⟩) (by assumption) ?rq1
      case yq1 => (intro w hSw; (try dsimp only at hSw); go_simp <;> with_reducible rfl)
      simp only [Act.put, List.setIfInBounds_toArray, List.set_cons_zero, List.set_cons_succ]
      refine wpAnyH_take (i := 2) (oi := { dst := some 16, op := Op.binOp BinOp.shr 5 (Operand.tmp 15) (Operand.const (Value.int IntKind.u64 4)) 99, type := 5, pos := "code.go:154", after := #[{ on := 1, ground := Ground.data }], guard := none }) (v := ?vq2) rfl (by as_aux_lemma => kernel_rfl) (by as_aux_lemma => kernel_rfl) (by as_aux_lemma => kernel_rfl) (fun _ _ _ h => h) (Or.inl ⟨by rfl, ?yq2⟩) (by assumption) ?rq2
      case yq2 => (intro w hSw; (try dsimp only at hSw); go_simp <;> with_reducible rfl)
      simp only [Act.put, List.setIfInBounds_toArray, List.set_cons_zero, List.set_cons_succ]
      refine wpAnyH_take (i := 4) (oi := { dst := some 18, op := Op.move (Operand.tmp 5), type := 5, pos := "code.go:154", after := #[], guard := none }) (v := ?vq3) rfl (by as_aux_lemma => kernel_rfl) (by as_aux_lemma => kernel_rfl) (by as_aux_lemma => kernel_rfl) (fun _ _ _ h => h) (Or.inl ⟨by rfl, ?yq3⟩) (by assumption) ?rq3
      case yq3 => (intro w hSw; (try dsimp only at hSw); go_simp <;> with_reducible rfl)
      simp only [Act.put, List.setIfInBounds_toArray, List.set_cons_zero, List.set_cons_succ]
      refine wpAnyH_take (i := 5) (oi := { dst := some 19, op := Op.binOp BinOp.and 5 (Operand.tmp 18) (Operand.const (Value.int IntKind.u8 15)) 5, type := 5, pos := "code.go:154", after := #[{ on := 4, ground := Ground.data }], guard := none }) (v := ?vq4) rfl (by as_aux_lemma => kernel_rfl) (by as_aux_lemma => kernel_rfl) (by as_aux_lemma => kernel_rfl) (fun _ _ _ h => h) (Or.inl ⟨by rfl, ?yq4⟩) (by assumption) ?rq4
      case yq4 => (intro w hSw; (try dsimp only at hSw); go_simp <;> with_reducible rfl)
      simp only [Act.put, List.setIfInBounds_toArray, List.set_cons_zero, List.set_cons_succ]
      refine wpAnyH_ready (rs := [3, 6]) (by as_aux_lemma => kernel_rfl) (by simp) ?_
      refine AllReadyH.cons (o := { dst := some 17, op := Op.index 9 (Operand.const (Value.string { data := #[48, 49, 50, 51, 52, 53, 54, 55, 56, 57, 97, 98, 99, 100, 101, 102] })) (Operand.tmp 16), type := 5, pos := "code.go:154", after := #[{ on := 2, ground := Ground.data }], guard := none }) rfl (fun K hK => ?_) ?_
      · rw [if_pos (by rfl)]
        refine wp_index_run 9 _ _ rfl _ _ rfl rfl (hi1 _) ?_
        refine hK.out _ _ (by (try dsimp only); (try trivial)) (fun hHeld => ?_)
        clear hK K
        simp only [List.setIfInBounds_toArray, List.set_cons_zero, List.set_cons_succ]
        refine wpAnyH_ready (rs := [6]) (by as_aux_lemma => kernel_rfl) (by simp) ?_
        refine AllReadyH.cons (o := { dst := some 20, op := Op.index 9 (Operand.const (Value.string { data := #[48, 49, 50, 51, 52, 53, 54, 55, 56, 57, 97, 98, 99, 100, 101, 102] })) (Operand.tmp 19), type := 5, pos := "code.go:154", after := #[{ on := 5, ground := Ground.data }], guard := none }) rfl (fun K hK => ?_) (by exact AllReadyH.nil)
        rw [if_pos (by rfl)]
        refine wp_index_run 9 _ _ rfl _ _ rfl rfl (hi2 _) ?_
        refine hK.out _ _ (by (try dsimp only); (try trivial)) (fun hHeld => ?_)
        clear hK K
        simp only [List.setIfInBounds_toArray, List.set_cons_zero, List.set_cons_succ]
        refine wpAnyH_ready (rs := [7]) (by as_aux_lemma => kernel_rfl) (by simp) ?_
        refine AllReadyH.cons (o := { dst := some 21, op := Op.buildSlice 32 2 #[(0, Operand.tmp 17), (1, Operand.tmp 20)], type := 32, pos := "code.go:154", after := #[{ on := 3, ground := Ground.data }, { on := 6, ground := Ground.data }], guard := none }) rfl (fun K hK => ?_) (by exact AllReadyH.nil)
        rw [if_pos (by rfl)]
        go_simp
        refine hK.out _ _ (by (try dsimp only); (try trivial)) (fun hHeld => ?_)
        clear hK K
        simp only [List.setIfInBounds_toArray, List.set_cons_zero, List.set_cons_succ]
        refine wpAnyH_ready (rs := [8]) (by as_aux_lemma => kernel_rfl) (by simp) ?_
        refine AllReadyH.cons (o := { dst := some 22, op := Op.call { callee := Callee.builtin Builtin.append, args := #[Operand.tmp 14, Operand.tmp 21], argTypes := #[32, 32] }, type := 32, pos := "code.go:154", after := #[{ on := 0, ground := Ground.data }, { on := 7, ground := Ground.data }], guard := none }) rfl (fun K hK => ?_) (by exact AllReadyH.nil)
        rw [if_pos (by rfl)]
        refine wp_app_run (.tmp 14) (.tmp 21) 32 rfl rfl rfl hrun ?_
        refine hK.out _ _ (by (try dsimp only); (try trivial)) (fun hHeld => ?_)
        clear hK K
        simp only [List.setIfInBounds_toArray, List.set_cons_zero, List.set_cons_succ]
        refine wpAnyH_take (i := 9) (oi := { dst := some 3, op := Op.assign (Operand.tmp 22), type := 32, pos := "code.go:154", after := #[{ on := 8, ground := Ground.data }, { on := 8, ground := Ground.chain }, { on := 0, ground := Ground.phase }, { on := 1, ground := Ground.phase }, { on := 2, ground := Ground.phase }, { on := 3, ground := Ground.phase }, { on := 4, ground := Ground.phase }, { on := 5, ground := Ground.phase }, { on := 6, ground := Ground.phase }, { on := 7, ground := Ground.phase }, { on := 8, ground := Ground.phase }], guard := none }) (v := ?vq9) rfl (by as_aux_lemma => kernel_rfl) (by as_aux_lemma => kernel_rfl) (by as_aux_lemma => kernel_rfl) (fun _ _ _ h => h) (Or.inl ⟨by rfl, ?yq9⟩) (by assumption) ?rq9
        case yq9 => (intro w hSw; (try dsimp only at hSw); go_simp <;> with_reducible rfl)
        simp only [Act.put, List.setIfInBounds_toArray, List.set_cons_zero, List.set_cons_succ]
        refine wpAnyH_done (by as_aux_lemma => kernel_rfl) ?_ _
        clear hHeld hi1 hi2 hrun
        go_wp2_with fail
        exact ⟨⟨k + 1, y2, c2, (by have := HS.out; omega), rfl, (by go_num), HE.out⟩, (by have := HS.out; simp [intOf]; omega)⟩
      refine AllReadyH.cons (o := { dst := some 20, op := Op.index 9 (Operand.const (Value.string { data := #[48, 49, 50, 51, 52, 53, 54, 55, 56, 57, 97, 98, 99, 100, 101, 102] })) (Operand.tmp 19), type := 5, pos := "code.go:154", after := #[{ on := 5, ground := Ground.data }], guard := none }) rfl (fun K hK => ?_) (by exact AllReadyH.nil)
      rw [if_pos (by rfl)]
      refine wp_index_run 9 _ _ rfl _ _ rfl rfl (hi2 _) ?_
      refine hK.out _ _ (by (try dsimp only); (try trivial)) (fun hHeld => ?_)
      clear hK K
      simp only [List.setIfInBounds_toArray, List.set_cons_zero, List.set_cons_succ]
      refine wpAnyH_ready (rs := [3]) (by as_aux_lemma => kernel_rfl) (by simp) ?_
      refine AllReadyH.cons (o := { dst := some 17, op := Op.index 9 (Operand.const (Value.string { data := #[48, 49, 50, 51, 52, 53, 54, 55, 56, 57, 97, 98, 99, 100, 101, 102] })) (Operand.tmp 16), type := 5, pos := "code.go:154", after := #[{ on := 2, ground := Ground.data }], guard := none }) rfl (fun K hK => ?_) (by exact AllReadyH.nil)
      rw [if_pos (by rfl)]
      refine wp_index_run 9 _ _ rfl _ _ rfl rfl (hi1 _) ?_
      refine hK.out _ _ (by (try dsimp only); (try trivial)) (fun hHeld => ?_)
      clear hK K
      simp only [List.setIfInBounds_toArray, List.set_cons_zero, List.set_cons_succ]
      refine wpAnyH_ready (rs := [7]) (by as_aux_lemma => kernel_rfl) (by simp) ?_
      refine AllReadyH.cons (o := { dst := some 21, op := Op.buildSlice 32 2 #[(0, Operand.tmp 17), (1, Operand.tmp 20)], type := 32, pos := "code.go:154", after := #[{ on := 3, ground := Ground.data }, { on := 6, ground := Ground.data }], guard := none }) rfl (fun K hK => ?_) (by exact AllReadyH.nil)
      rw [if_pos (by rfl)]
      go_simp
      refine hK.out _ _ (by (try dsimp only); (try trivial)) (fun hHeld => ?_)
      clear hK K
      simp only [List.setIfInBounds_toArray, List.set_cons_zero, List.set_cons_succ]
      refine wpAnyH_ready (rs := [8]) (by as_aux_lemma => kernel_rfl) (by simp) ?_
      refine AllReadyH.cons (o := { dst := some 22, op := Op.call { callee := Callee.builtin Builtin.append, args := #[Operand.tmp 14, Operand.tmp 21], argTypes := #[32, 32] }, type := 32, pos := "code.go:154", after := #[{ on := 0, ground := Ground.data }, { on := 7, ground := Ground.data }], guard := none }) rfl (fun K hK => ?_) (by exact AllReadyH.nil)
      rw [if_pos (by rfl)]
      refine wp_app_run (.tmp 14) (.tmp 21) 32 rfl rfl rfl hrun ?_
      refine hK.out _ _ (by (try dsimp only); (try trivial)) (fun hHeld => ?_)
      clear hK K
      simp only [List.setIfInBounds_toArray, List.set_cons_zero, List.set_cons_succ]
      refine wpAnyH_take (i := 9) (oi := { dst := some 3, op := Op.assign (Operand.tmp 22), type := 32, pos := "code.go:154", after := #[{ on := 8, ground := Ground.data }, { on := 8, ground := Ground.chain }, { on := 0, ground := Ground.phase }, { on := 1, ground := Ground.phase }, { on := 2, ground := Ground.phase }, { on := 3, ground := Ground.phase }, { on := 4, ground := Ground.phase }, { on := 5, ground := Ground.phase }, { on := 6, ground := Ground.phase }, { on := 7, ground := Ground.phase }, { on := 8, ground := Ground.phase }], guard := none }) (v := ?vq14) rfl (by as_aux_lemma => kernel_rfl) (by as_aux_lemma => kernel_rfl) (by as_aux_lemma => kernel_rfl) (fun _ _ _ h => h) (Or.inl ⟨by rfl, ?yq14⟩) (by assumption) ?rq14
      case yq14 => (intro w hSw; (try dsimp only at hSw); go_simp <;> with_reducible rfl)
      simp only [Act.put, List.setIfInBounds_toArray, List.set_cons_zero, List.set_cons_succ]
      refine wpAnyH_done (by as_aux_lemma => kernel_rfl) ?_ _
      clear hHeld hi1 hi2 hrun
      go_wp2_with fail
      exact ⟨⟨k + 1, y2, c2, (by have := HS.out; omega), rfl, (by go_num), HE.out⟩, (by have := HS.out; simp [intOf]; omega)⟩
    · obtain rfl : k = n := by omega
      have hOn := hO
      rw [← HN.out, List.take_length] at hOn
      have hlk : (hxL l).length = 2 + 2 * l.length := hxL_len l
      have hbt := hOn.bto (by rw [hlk]; have := HL.out; omega)
      have hcv2 := conv_byteso wr.heap.size _ (hxL l) wr hbt (by rw [hlk]; have := HL.out; omega)
      rw [HN.out] at hcv2
      have HW := Lib.hid hW
      clear hO hOn hbt hlk hW hcv HX
      go_wp2_with fail
      go_ret
      exact ⟨rfl, HW.out⟩
end Go.Proofs.YtcdmaapjcckbmaaDoor
