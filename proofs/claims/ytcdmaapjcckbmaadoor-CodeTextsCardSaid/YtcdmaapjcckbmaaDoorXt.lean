/- code: code's text (Text). -/
import Derived.Test.YtcdmaapjcckbmaaDoorXs
import Derived.Test.YtcdmaapjcckbmaaDoorXj
namespace Go.Proofs.YtcdmaapjcckbmaaDoor
open Go.RowKit Go.Shelf

theorem Bu.below {b B2 : Nat} {l : List UInt8} {X Y : World} (h : Bu b B2 l X) (k : Below X.heap.size X Y) : Bu b B2 l Y := h.kept (grown_new k) (fun _ e => by cases e)
theorem KpB.below {b B2 : Nat} {X Y Z : World} (h : KpB b B2 X Y) (k : Below Y.heap.size Y Z) (hb : b ≤ Y.heap.size) : KpB b B2 X Z :=
  ⟨h.1.trans (k.mono hb), fun i _ _ h3 => (k.block i (Nat.lt_of_lt_of_le h3 h.1.size)).trans (h.2 i ‹_› ‹_› h3)⟩

/-- Bytes' text, an op's name or its byte's text, an op with its bytes, the text of the first ops. -/
def hxB (l : List Nat) : List UInt8 := (hxL l).map UInt8.ofNat
def nmB (b : Nat) : List UInt8 := if (oi b).nm.isEmpty then hxB [b] else (oi b).nm
def opT (l : List Nat) (k : Nat) : List UInt8 := (if pos l k = 0 then [] else [32]) ++ nmB (opB l k) ++ (if szO (opB l k) = 0 then [] else 32 :: hxB (bhL l (pos l k)))
def txK (l : List Nat) : Nat → List UInt8
  | 0 => []
  | k + 1 => txK l k ++ opT l k
def txL10 (l : List Nat) : List UInt8 := txK l (opsN l)
theorem toS_hx (l : List Nat) : toS (hxL l) = ⟨(hxB l).toArray⟩ := rfl
theorem hxB_len (l : List Nat) : (hxB l).length = 2 + 2 * l.length := by unfold hxB; rw [List.length_map, hxL_len]
theorem nm_len : ∀ n : Fin 256, (oi n.val).nm.length ≤ 14 := by decide +kernel
theorem nmB_len (b : Nat) (h : b < 256) : (nmB b).length ≤ 14 := by
  unfold nmB
  split
  · rw [hxB_len]; simp
  · exact nm_len ⟨b, h⟩
theorem opT_len (l : List Nat) (k : Nat) (h : opB l k < 256) : (opT l k).length ≤ 82 := by
  have h1 := nmB_len _ h
  have h2 := szO_le (opB l k)
  have h3 : (hxB (bhL l (pos l k))).length = 2 + 2 * szO (opB l k) := by rw [hxB_len, bhL_len]; rfl
  unfold opT
  rw [List.length_append, List.length_append]
  split <;> split <;> simp [h3] <;> omega
theorem opB_lt {l : List Nat} (h : ∀ x ∈ l, x < 256) (k : Nat) : opB l k < 256 := by
  unfold opB
  rw [List.getD_eq_getElem?_getD]
  cases h2 : l[pos l k]? with
  | none => simp
  | some y => exact h y (List.mem_of_getElem? h2)
theorem txK_len {l : List Nat} (h : ∀ x ∈ l, x < 256) (k : Nat) : (txK l k).length ≤ 82 * k := by
  induction k with
  | zero => simp [txK]
  | succ k ih =>
    have := opT_len l k (opB_lt h k)
    show (txK l k ++ opT l k).length ≤ _
    rw [List.length_append]
    omega
/-- Text: what stands between two rounds. -/
def TXI (B b Q : Nat) (sl : Value) (l : List Nat) (w : World) (pre : List Nat) (X : World) : Prop :=
  Bu (Q + 1) (Q + 5) (txK l pre.length) X ∧ (Blk X b 32 #[sl] ∧ Blk X Q 63 (nmV 256) ∧ Blk X (Q + 2) 32 #[sl]) ∧ Bto B X sl l ∧ Below b w X
theorem TXI.stay {B b Q : Nat} {sl : Value} {l : List Nat} {w : World} (hB : B ≤ b) (hQ : b < Q) (hb : b ≤ w.heap.size) : StayM (fun k => noM k ∨ k = Q + 3 ∨ k = Q + 3 + 1) (TXI B b Q sl l w) := fun pre X Y row h hg hr => by
  obtain ⟨h1, ⟨h2, h3, h4⟩, h5, h6⟩ := h
  have hne : ∀ r, row = some r → r = Q + 3 ∨ r = Q + 4 := fun r e => by rcases hr r e with h | h | h; exact h.elim; exact .inl h; exact .inr h
  exact ⟨h1.kept hg (fun r e => by rcases hne r e with h | h <;> omega), ⟨h2.kept hg (fun e => by rcases hne _ e.symm with h | h <;> omega), h3.kept hg (fun e => by rcases hne _ e.symm with h | h <;> omega), h4.kept hg (fun e => by rcases hne _ e.symm with h | h <;> omega)⟩, h5.kept hg.size (fun i hi hx => hg.block i hx (fun e => by rcases hne _ e.symm with h | h <;> omega)), h6.grown hg (Nat.le_trans hb h6.size) (fun r e => by rcases hne r e with h | h <;> omega)⟩
theorem tx_below {b B2 m : Nat} {L : List UInt8} {X Y Z : World} (h : Bu b B2 L Y ∧ KpB b B2 X Y ∧ L.length ≤ m) (hb : b ≤ X.heap.size) (k : Below Y.heap.size Y Z) : Bu b B2 L Z ∧ KpB b B2 X Z ∧ L.length ≤ m :=
  ⟨h.1.below k, h.2.1.below k (Nat.le_trans hb h.2.1.1.size), h.2.2⟩
theorem tx_new {Q m : Nat} {L : List UInt8} {X Y Z : World} {o : Obj} (h : Bu (Q + 1) (Q + 5) L Y ∧ KpB (Q + 1) (Q + 5) X Y ∧ L.length ≤ m) (hb : Q + 5 ≤ X.heap.size) (k : Below (Y.alloc o).heap.size (Y.alloc o) Z) : Bu (Q + 1) (Q + 5) L Z ∧ KpB (Q + 1) (Q + 5) X Z ∧ L.length ≤ m :=
  tx_below h (by omega) (bstep (balloc (Below.refl Y.heap.size Y) o) k)
theorem tx_ws {b B2 m z : Nat} {L : List UInt8} {s : ByteArray} {X Y Z : World} (h : Bu b B2 L Y ∧ KpB b B2 X Y ∧ L.length ≤ m) (hb : Bw b B2 (L ++ s.data.toList) Z) (hk : KpB b B2 Y Z) (hz : s.size ≤ z) : Bu b B2 (L ++ s.data.toList) Z ∧ KpB b B2 X Z ∧ (L ++ s.data.toList).length ≤ m + z :=
  ⟨hb.bu, h.2.1.trans hk, by rw [List.length_append]; have e : s.data.toList.length = s.size := rfl; omega⟩
attribute [local irreducible] hx nmV
attribute [local go_sem] Oper.semAt_some
set_option maxRecDepth 100000 in
set_option maxHeartbeats 4000000 in
theorem text10_any (B : Nat) (v : Value) (l : List Nat) (hl : l.length ≤ 1000) (w : World) (hB : B ≤ w.heap.size) (hv : Bto B w v l) : Calls Tryd.prog 23 #[v] w fun e w' => e = .returned (.string ⟨(txL10 l).toArray⟩) ∧ Below w.heap.size w w' := by
  obtain ⟨x0, c0, rfl⟩ : ∃ x0 c0, v = .slice x0 l.length c0 := by obtain ⟨_, x, c, h, _⟩ := hv; exact ⟨x, c, h⟩
  have HV := Lib.hid hv
  have HL := Lib.hid (And.intro hl hB)
  obtain ⟨n, hn⟩ : ∃ n, l.length = n := ⟨_, rfl⟩
  have HN := Lib.hid hn
  rw [hn] at HV ⊢
  clear hv hl hB hn
  refine (callsIn_wide (n := 20)).1 ?_
  refine callsIn_of_wp_marks Tryd.func23 rfl trivial ?_ rfl
  simp only [Tryd.ntmps23, List.size_toArray, List.length_cons, List.length_nil, Nat.reduceAdd, Nat.reduceSub, Array.replicate_succ, Array.replicate_zero, List.push_toArray, List.append_toArray, List.nil_append, List.cons_append]
  refine (wpIn_wide (n := 20)).2 ?_
  go_upto_region 1 with fail
  refine wp_region_lit ?_
  refine wpList_plain rfl fun K hK => ?_
  go_simp
  refine (names_any _).mono ?_
  rintro e w1 ⟨rfl, hw⟩
  refine hK _ _ ?_
  clear hK K
  refine wpList_plain rfl fun K hK => ?_
  go_simp
  refine hK _ _ ?_
  clear hK K
  rw [zero_names]
  refine wpList_store_row rfl 63 (.tmp 3) (.tmp 9) rfl w1.heap.size (nmV 256) rfl rfl 63 (nmV 0) (Blk.new w1 _ _) (by rw [infoNm, nmV_size]) (by rw [nmV_size, nmV_size]) (nmV_one _) (wpList_nil ?_)
  rw [World.setRow_alloc_new]
  have k0 : Blk (w1.alloc (.cells (nmV 256) 63)) w.heap.size 32 #[.slice x0 n c0] := (Blk.keep (Blk.new w _ _) hw).alloc _
  have k1 : Blk (w1.alloc (.cells (nmV 256) 63)) w1.heap.size 63 (nmV 256) := Blk.new w1 _ _
  have kW : Below w.heap.size w (w1.alloc (.cells (nmV 256) 63)) := balloc (bstep (balloc (Below.refl _ _) _) hw) _
  have kS : (w1.alloc (.cells (nmV 256) 63)).heap.size = w1.heap.size + 1 := World.size_alloc _ _
  have kQ : w.heap.size < w1.heap.size := by have := hw.size; rw [World.size_alloc] at this; omega
  generalize w1.heap.size = Q at k1 kS kQ ⊢
  generalize (w1.alloc (.cells (nmV 256) 63)) = Y at k0 k1 kW kS ⊢
  have HY := Lib.hid (And.intro k0 (And.intro k1 (And.intro kW (And.intro kS kQ))))
  clear k0 k1 kW kQ hw kS
  go_upto_region 3 with fail
  obtain ⟨k0, k1, kW, kS, kQ⟩ := HY.out
  rw [kS]
  have j0 := (k0.alloc (.cells #[.pointer none, .slice none 0 0] 80)).alloc (.cells #[.slice x0 n c0] 32)
  have j1 := (k1.alloc (.cells #[.pointer none, .slice none 0 0] 80)).alloc (.cells #[.slice x0 n c0] 32)
  have j2 := (Blk.new Y 80 #[.pointer none, .slice none 0 0]).alloc (.cells #[.slice x0 n c0] 32)
  have j3 := Blk.newS Y (.cells #[.pointer none, .slice none 0 0] 80) 32 #[.slice x0 n c0]
  have jW := balloc (balloc kW (.cells #[.pointer none, .slice none 0 0] 80)) (.cells #[.slice x0 n c0] 32)
  have jS : ((Y.alloc (.cells #[.pointer none, .slice none 0 0] 80)).alloc (.cells #[.slice x0 n c0] 32)).heap.size = Q + 3 := by rw [World.size_alloc, World.size_alloc, kS]
  have cB := cell_of_row _ _ 0 _ _ _ (k0.alloc (.cells #[.pointer none, .slice none 0 0] 80))
  have kS2 : (Y.alloc (.cells #[.pointer none, .slice none 0 0] 80)).heap.size = Q + 2 := by rw [World.size_alloc, kS]
  rw [kS] at j2 j3
  have HZ := Lib.hid (And.intro j0 (And.intro j1 (And.intro j2 (And.intro j3 (And.intro jW (And.intro jS kQ))))))
  clear k0 k1 kW kS kQ j0 j1 j2 j3 jW jS HY
  have HS2 := Lib.hid kS2
  clear kS2
  obtain ⟨V, hV⟩ : ∃ V, Y.alloc (.cells #[.pointer none, .slice none 0 0] 80) = V := ⟨_, rfl⟩
  rw [hV] at cB HZ HS2 ⊢
  clear hV
  go_wp2_with (first | (go_at_call 38; refine (ops_any _ _ _ _).mono ?_; rintro e w1 ⟨rfl, rfl⟩) | fail)
  rw [HS2.out]
  obtain ⟨W0, hW0⟩ : ∃ W0, V.alloc (.cells #[.slice x0 n c0] 32) = W0 := ⟨_, rfl⟩
  rw [hW0] at HZ ⊢
  clear hW0 cB HS2
  have hVW : Bto B W0 (.slice x0 n c0) l := HV.out.new HZ.out.2.2.2.2.1
  have hI0 : TXI B w.heap.size Q (.slice x0 n c0) l w [] W0 := ⟨Bu.new W0 _ HZ.out.2.2.1 _, ⟨HZ.out.1, HZ.out.2.1, HZ.out.2.2.2.1⟩, hVW, HZ.out.2.2.2.2.1⟩
  have HSZ := Lib.hid HZ.out.2.2.2.2.2
  refine (wpIn_wide (n := 20)).1 ?_
  refine wpIn_rangeV (n := 20) (by omega) (gf := 64) (lb := #[.pointer (some ⟨Q + 2, 0, none⟩)]) rfl enters_ops
    (ops_seq (20 - 1) (by omega) (Q + 2) B w.heap.size (.slice x0 n c0) l (by have := HL.out; omega) W0) (Below.refl _ _) hI0.2.2.2.size (fun k h => h.elim) (fun _ => rfl)
    (TXI B w.heap.size Q (.slice x0 n c0) l w) (fun _ _ _ => False) (by rw [HSZ.out.1]; exact TXI.stay HL.out.2 HSZ.out.2 (Nat.le_refl _)) (fun _ _ _ _ _ h _ _ => h.elim) (fun pre X h => ⟨h.2.1.2.2, h.2.2.1⟩) hI0
    (fun x a' _ => a' = { tmps := #[.slice x0 n c0, .pointer (some ⟨w.heap.size, 0, none⟩), .string ⟨#[]⟩, .pointer (some ⟨Q, 0, none⟩), .pointer (some ⟨Q + 1, 0, none⟩), .int .i64 (pos l x : Nat), .int .u8 (opB l x : Nat), undef, undef, .agg (nmV 256), .slice x0 n c0, .func (.func 64) #[] #[.pointer (some ⟨Q + 2, 0, none⟩)], .int .i64 (pos l x : Nat), .int .u8 (opB l x : Nat), undef, undef, undef, undef, undef, undef, undef, undef, undef, undef, undef, undef, undef, undef, undef, undef, undef, undef, undef, undef, undef, undef, undef, undef], defers := [] })
    (fun x a' _ _ _ _ hs _ _ => hs)
    ?assign ?body ?done ?stop
  case assign =>
    rintro l2 pre x X K _ _ hi hK
    gi_wp2_with fail
    exact hK _ _ (KeptM.refl _ _) (Below.refl _ _) hi rfl
  case stop =>
    rintro D c pre X hD _ h hK
    exact h.elim
  case done =>
    rintro D xs X hD rfl hi hK
    obtain ⟨hb, _, _, hB⟩ := hi
    rw [List.length_range] at hb
    have hDs : D = Q + 3 := by have := HSZ.out; omega
    have hQ1 := HSZ.out.2
    have HC := Lib.hid (bs_any (Q + 1) (Q + 5) (txL10 l) X hb (by omega))
    have HK := Lib.hid (And.intro hK hB)
    clear hb hB hK hVW hI0
    go_wp2_with (first | (go_at_call 50; refine (HC.out).mono ?_; rintro e Y2 ⟨rfl, h1, h2⟩; have hy := h2 D HK.out.1; rw [hD] at hy; have HY := Lib.hid (And.intro hy (HK.out.2.trans (h1.mono (by omega)))); clear h1 h2 hy) | fail)
    refine ⟨by simp, .inl ⟨_, _, rfl, run_takeDeferred HY.out.1, ?_⟩⟩
    exact ⟨_, results_tmp rfl _ _ _, rfl, HY.out.2.trans (below_put _ _ (by have := HSZ.out; omega))⟩
  case body =>
    rintro l2 pre x a' X hl2 ⟨hpre, hx⟩ hlo hi rfl
    have hplen : pre.length = x := by rw [hpre, List.length_range]
    have hX5 : Q + 5 ≤ X.heap.size := by obtain ⟨r, hr⟩ := hlo; have := (Array.getElem?_eq_some_iff.1 hr).1; have := HSZ.out; omega
    obtain ⟨hb, ⟨hb0, hbN, hbA⟩, hbt, hBw⟩ := hi
    rw [hplen] at hb
    have hQ1 := HSZ.out.2
    have hp := (opsN_spec l).2.2 x hx
    have hxn : x < 1000 := by have := (opsN_spec l).2.1; have := HL.out; omega
    have hop := opB_lt hbt.1 x
    have htl := txK_len hbt.1 x
    have hnl := nmB_len (opB l x) hop
    have hszl := szO_le (opB l x)
    have cN : X.cell? ⟨Q, opB l x, none⟩ = some (.string (nmO (opB l x))) := (cell_of_row _ _ (opB l x) _ _ _ hbN).trans (by rw [nmV_get _ _ hop, if_pos hop])
    have hopI : (opB l x : Int) < 256 := by omega
    have hop0 : (0 : Int) ≤ (opB l x : Int) := by omega
    have hpos0 : (0 : Int) ≤ (pos l x : Int) := by omega
    have hbl : (bhL l (pos l x)).length = szO (opB l x) := bhL_len l (pos l x)
    have hbb := bhL_byte hbt.1 (pos l x)
    -- the world now, what is written, the source
    have HB : Hid (Bu (Q + 1) (Q + 5) (txK l x) X ∧ KpB (Q + 1) (Q + 5) X X ∧ (txK l x).length ≤ 82 * x) := Lib.hid ⟨hb, KpB.refl _ _ _, htl⟩
    have HF := Lib.hid (And.intro hb0 (And.intro hbN (And.intro hbA (And.intro hbt hBw))))
    have HP := Lib.hid (And.intro hplen (And.intro hX5 (And.intro hp (And.intro hxn (And.intro hop (And.intro hnl (And.intro hszl (And.intro hQ1 (And.intro hbl hbb)))))))))
    have HT := Lib.hid (show txK l (x + 1) = txK l x ++ opT l x from rfl)
    have HPL := Lib.hid hpre
    have hfin : ∀ (Y : World) (L : List UInt8), Bu (Q + 1) (Q + 5) L Y → KpB (Q + 1) (Q + 5) X Y → L = txK l x ++ opT l x → postM (fun k => noM k ∨ k = W0.heap.size ∨ k = W0.heap.size + 1) w.heap.size (TXI B w.heap.size Q (.slice x0 n c0) l w) (fun _ _ _ => False) (pre ++ [x]) X .normal { tmps := #[], defers := [] } Y := fun Y L h1 h2 h3 => by
      have hkeep : ∀ k, k ≠ Q + 1 → k < Q + 5 → Y.heap[k]? = X.heap[k]? := fun k a b => h2.2 k a b (by omega)
      refine ⟨?_, h2.1.mono (by omega), ?_, ⟨(hkeep _ (by omega) (by omega)).trans hb0, (hkeep _ (by omega) (by omega)).trans hbN, (hkeep _ (by omega) (by omega)).trans hbA⟩, hbt.kept h2.1.size (fun i hi hx => hkeep i (by have := HL.out; omega) (by have := HL.out; omega)), hBw.trans (h2.1.mono (by omega))⟩
      · rw [HSZ.out.1]
        exact ⟨h2.1.size, fun k hk hx => by rcases hk with h | h | h; exact h.elim; exact hkeep k (by omega) (by omega); exact hkeep k (by omega) (by omega)⟩
      · rw [List.length_append, hplen]
        show Bu _ _ (txK l (x + 1)) Y
        rw [HT.out, ← h3]
        exact h1
    have HFIN := Lib.hid hfin
    have cb0 := cell_of_row _ _ 0 _ _ _ hb0
    have HOP := Lib.hid (show opT l x = (if pos l x = 0 then [] else [32]) ++ nmB (opB l x) ++ (if szO (opB l x) = 0 then [] else 32 :: hxB (bhL l (pos l x))) from rfl)
    clear hb hb0 hbN hbA hbt hBw hplen hX5 hp hxn hop htl hnl hszl hbl hpre hlo hx hfin hVW hI0 hbb
    by_cases e1 : (oi (opB l x)).nm.isEmpty = true
    · by_cases e2 : pos l x = 0
      · by_cases e3 : szO (opB l x) = 0
        · have q1 : ((nmO (opB l x)).toList == []) = true := by have := nm_toList (oi (opB l x)); rw [e1] at this; exact this
          have n1 : nmB (opB l x) = hxB [opB l x] := by unfold nmB; rw [if_pos e1]
          have HA := Lib.hid (bytesText_any (X.alloc (.cells #[.int .u8 (opB l x : Nat)] 5)).heap.size (.slice (some ⟨X.heap.size, 0, none⟩) 1 1) [opB l x] (by simp) (X.alloc (.cells #[.int .u8 (opB l x : Nat)] 5)) (Nat.le_refl _) (Bto.of_blk (l := [opB l x]) (Blk.new X 5 #[.int .u8 (opB l x : Nat)]) (fun z hz => by simp at hz; subst hz; exact HP.out.2.2.2.2.1) (by simp)))
          have q2 : ¬ (0 : Int) < (pos l x : Int) := by omega
          have n2 : (if pos l x = 0 then ([] : List UInt8) else [32]) = [] := if_pos e2
          have q3 : ¬ (0 : Int) < ((bhL l (pos l x)).length : Int) := by rw [HP.out.2.2.2.2.2.2.2.2.1, e3]; simp
          have n3 : (if szO (opB l x) = 0 then ([] : List UInt8) else 32 :: hxB (bhL l (pos l x))) = [] := if_pos e3
          rw [n1, n2, n3] at HOP
          have HE := Lib.hid (And.intro e1 (And.intro e2 e3))
          rw [n1] at HP
          clear n1 n2 n3 e1 e2 e3
          gi_wp2_with fail
          refine ⟨trivial, ?_⟩
          refine (callsIn_wide.2 HA.out).mono ?_
          rintro e X1 ⟨rfl, hw1⟩
          replace HB := Lib.hid (tx_new HB.out HP.out.2.1 hw1)
          clear HA hw1 q1 cN cb0
          gi_wp2_with fail
          refine ⟨trivial, ?_⟩
          refine (callsIn_wide.2 (ws_any (Q + 1) (Q + 5) _ (toS (hxL [opB l x])) _ HB.out.1 (by omega) (Nat.le_trans HP.out.2.1 HB.out.2.1.1.size) (Nat.le_trans (Nat.add_le_add HB.out.2.2 (show (toS (hxL [opB l x])).size ≤ 14 from by have := HP.out.2.2.2.2.2.1; simpa [ByteArray.size, toS, hxB] using this)) (by have := HP.out.2.2.2.1; omega)))).mono ?_
          rintro e Z2 ⟨rfl, hb, hk⟩
          replace HB := Lib.hid (tx_ws HB.out hb hk (show (toS (hxL [opB l x])).size ≤ 14 from by have := HP.out.2.2.2.2.2.1; simpa [ByteArray.size, toS, hxB] using this))
          clear hb hk
          have cb := cell_of_row _ _ 0 _ _ _ ((HB.out.2.1.2 w.heap.size (by omega) (by omega) (by have := HP.out.2.1; omega)).trans HF.out.1)
          have HV2 : Hid (Bto B Z2 (.slice x0 n c0) l) := Lib.hid (HF.out.2.2.2.1.kept HB.out.2.1.1.size (fun i hi hx => HB.out.2.1.2 i (by have := HL.out; omega) (by have := HL.out; omega) hx))
          gi_wp2_with fail
          refine ⟨trivial, ?_⟩
          refine (callsIn_wide.2 (behind_any B (.slice x0 n c0) l (pos l x) HL.out.1 HP.out.2.2.1 _ HV2.out)).mono ?_
          rintro e Z3 ⟨g, rfl, hg, hbk, hw3⟩
          replace HB := Lib.hid (tx_below HB.out (by have := HP.out.2.1; omega) hw3)
          have HG := Lib.hid hbk
          clear hbk hw3 cb
          gi_wp2_with fail
          have hfin := HFIN.out _ _ HB.out.1 HB.out.2.1 (by rw [HOP.out]; simp [toS, hxB])
          exact hfin
        · have q1 : ((nmO (opB l x)).toList == []) = true := by have := nm_toList (oi (opB l x)); rw [e1] at this; exact this
          have n1 : nmB (opB l x) = hxB [opB l x] := by unfold nmB; rw [if_pos e1]
          have HA := Lib.hid (bytesText_any (X.alloc (.cells #[.int .u8 (opB l x : Nat)] 5)).heap.size (.slice (some ⟨X.heap.size, 0, none⟩) 1 1) [opB l x] (by simp) (X.alloc (.cells #[.int .u8 (opB l x : Nat)] 5)) (Nat.le_refl _) (Bto.of_blk (l := [opB l x]) (Blk.new X 5 #[.int .u8 (opB l x : Nat)]) (fun z hz => by simp at hz; subst hz; exact HP.out.2.2.2.2.1) (by simp)))
          have q2 : ¬ (0 : Int) < (pos l x : Int) := by omega
          have n2 : (if pos l x = 0 then ([] : List UInt8) else [32]) = [] := if_pos e2
          have q3 : (0 : Int) < ((bhL l (pos l x)).length : Int) := by rw [HP.out.2.2.2.2.2.2.2.2.1]; omega
          have n3 : (if szO (opB l x) = 0 then ([] : List UInt8) else 32 :: hxB (bhL l (pos l x))) = 32 :: hxB (bhL l (pos l x)) := if_neg e3
          rw [n1, n2, n3] at HOP
          have HE := Lib.hid (And.intro e1 (And.intro e2 e3))
          rw [n1] at HP
          clear n1 n2 n3 e1 e2 e3
          gi_wp2_with fail
          refine ⟨trivial, ?_⟩
          refine (callsIn_wide.2 HA.out).mono ?_
          rintro e X1 ⟨rfl, hw1⟩
          replace HB := Lib.hid (tx_new HB.out HP.out.2.1 hw1)
          clear HA hw1 q1 cN cb0
          gi_wp2_with fail
          refine ⟨trivial, ?_⟩
          refine (callsIn_wide.2 (ws_any (Q + 1) (Q + 5) _ (toS (hxL [opB l x])) _ HB.out.1 (by omega) (Nat.le_trans HP.out.2.1 HB.out.2.1.1.size) (Nat.le_trans (Nat.add_le_add HB.out.2.2 (show (toS (hxL [opB l x])).size ≤ 14 from by have := HP.out.2.2.2.2.2.1; simpa [ByteArray.size, toS, hxB] using this)) (by have := HP.out.2.2.2.1; omega)))).mono ?_
          rintro e Z2 ⟨rfl, hb, hk⟩
          replace HB := Lib.hid (tx_ws HB.out hb hk (show (toS (hxL [opB l x])).size ≤ 14 from by have := HP.out.2.2.2.2.2.1; simpa [ByteArray.size, toS, hxB] using this))
          clear hb hk
          have cb := cell_of_row _ _ 0 _ _ _ ((HB.out.2.1.2 w.heap.size (by omega) (by omega) (by have := HP.out.2.1; omega)).trans HF.out.1)
          have HV2 : Hid (Bto B Z2 (.slice x0 n c0) l) := Lib.hid (HF.out.2.2.2.1.kept HB.out.2.1.1.size (fun i hi hx => HB.out.2.1.2 i (by have := HL.out; omega) (by have := HL.out; omega) hx))
          gi_wp2_with fail
          refine ⟨trivial, ?_⟩
          refine (callsIn_wide.2 (behind_any B (.slice x0 n c0) l (pos l x) HL.out.1 HP.out.2.2.1 _ HV2.out)).mono ?_
          rintro e Z3 ⟨g, rfl, hg, hbk, hw3⟩
          replace HB := Lib.hid (tx_below HB.out (by have := HP.out.2.1; omega) hw3)
          have HG := Lib.hid hbk
          clear hbk hw3 cb
          gi_wp2_with fail
          refine ⟨trivial, ?_⟩
          refine (callsIn_wide.2 (bytesText_any Z3.heap.size _ (bhL l (pos l x)) (by have := HP.out; omega) Z3 (Nat.le_refl _) (Bto.of_blk HG.out HP.out.2.2.2.2.2.2.2.2.2 (by have := HP.out; omega)))).mono ?_
          rintro e Z4 ⟨rfl, hw4⟩
          replace HB := Lib.hid (tx_below HB.out (by have := HP.out.2.1; omega) hw4)
          clear hw4
          have hbz : (toS (hxL (bhL l (pos l x)))).size ≤ 66 := by
            have h1 := hxB_len (bhL l (pos l x))
            have h2 := HP.out
            simp only [toS, ByteArray.size, List.size_toArray]
            unfold hxB at h1
            omega
          have hcc : ¬ 9223372036854775807 < 1 + (toS (hxL (bhL l (pos l x)))).size := by omega
          have hR0 : ((⟨#[32]⟩ : ByteArray) ++ toS (hxL (bhL l (pos l x)))).data.toList = 32 :: hxB (bhL l (pos l x)) := by
            rw [ByteArray.data_append]
            simp [toS, hxB]
          have hRz : ((⟨#[32]⟩ : ByteArray) ++ toS (hxL (bhL l (pos l x)))).size ≤ 67 := by rw [ByteArray.size_append]; show 1 + _ ≤ 67; omega
          generalize hRR : (⟨#[32]⟩ : ByteArray) ++ toS (hxL (bhL l (pos l x))) = R at *
          have HRZ := Lib.hid (And.intro hRz hR0)
          clear hRz hR0 hbz
          gi_wp2_with fail
          refine ⟨trivial, ?_⟩
          refine (callsIn_wide.2 (ws_any (Q + 1) (Q + 5) _ R _ HB.out.1 (by omega) (Nat.le_trans HP.out.2.1 HB.out.2.1.1.size) (Nat.le_trans (Nat.add_le_add HB.out.2.2 HRZ.out.1) (by have := HP.out.2.2.2.1; omega)))).mono ?_
          rintro e Z5 ⟨rfl, hb, hk⟩
          replace HB := Lib.hid (tx_ws HB.out hb hk HRZ.out.1)
          clear hb hk
          gi_wp2_with fail
          have hfin := HFIN.out _ _ HB.out.1 HB.out.2.1 (by rw [HOP.out]; simp [toS, hxB, HRZ.out.2])
          exact hfin
      · by_cases e3 : szO (opB l x) = 0
        · have q1 : ((nmO (opB l x)).toList == []) = true := by have := nm_toList (oi (opB l x)); rw [e1] at this; exact this
          have n1 : nmB (opB l x) = hxB [opB l x] := by unfold nmB; rw [if_pos e1]
          have HA := Lib.hid (bytesText_any (X.alloc (.cells #[.int .u8 (opB l x : Nat)] 5)).heap.size (.slice (some ⟨X.heap.size, 0, none⟩) 1 1) [opB l x] (by simp) (X.alloc (.cells #[.int .u8 (opB l x : Nat)] 5)) (Nat.le_refl _) (Bto.of_blk (l := [opB l x]) (Blk.new X 5 #[.int .u8 (opB l x : Nat)]) (fun z hz => by simp at hz; subst hz; exact HP.out.2.2.2.2.1) (by simp)))
          have q2 : (0 : Int) < (pos l x : Int) := by omega
          have n2 : (if pos l x = 0 then ([] : List UInt8) else [32]) = [32] := if_neg e2
          have q3 : ¬ (0 : Int) < ((bhL l (pos l x)).length : Int) := by rw [HP.out.2.2.2.2.2.2.2.2.1, e3]; simp
          have n3 : (if szO (opB l x) = 0 then ([] : List UInt8) else 32 :: hxB (bhL l (pos l x))) = [] := if_pos e3
          rw [n1, n2, n3] at HOP
          have HE := Lib.hid (And.intro e1 (And.intro e2 e3))
          rw [n1] at HP
          clear n1 n2 n3 e1 e2 e3
          gi_wp2_with fail
          refine ⟨trivial, ?_⟩
          refine (callsIn_wide.2 HA.out).mono ?_
          rintro e X1 ⟨rfl, hw1⟩
          replace HB := Lib.hid (tx_new HB.out HP.out.2.1 hw1)
          clear HA hw1 q1 cN cb0
          gi_wp2_with fail
          refine ⟨trivial, ?_⟩
          refine (callsIn_wide.2 (ws_any (Q + 1) (Q + 5) _ ⟨#[32]⟩ _ HB.out.1 (by omega) (Nat.le_trans HP.out.2.1 HB.out.2.1.1.size) (Nat.le_trans (Nat.add_le_add HB.out.2.2 (Nat.le_refl 1)) (by have := HP.out.2.2.2.1; omega)))).mono ?_
          rintro e Z1 ⟨rfl, hb, hk⟩
          replace HB := Lib.hid (tx_ws HB.out hb hk (Nat.le_refl 1))
          clear hb hk
          gi_wp2_with fail
          refine ⟨trivial, ?_⟩
          refine (callsIn_wide.2 (ws_any (Q + 1) (Q + 5) _ (toS (hxL [opB l x])) _ HB.out.1 (by omega) (Nat.le_trans HP.out.2.1 HB.out.2.1.1.size) (Nat.le_trans (Nat.add_le_add HB.out.2.2 (show (toS (hxL [opB l x])).size ≤ 14 from by have := HP.out.2.2.2.2.2.1; simpa [ByteArray.size, toS, hxB] using this)) (by have := HP.out.2.2.2.1; omega)))).mono ?_
          rintro e Z2 ⟨rfl, hb, hk⟩
          replace HB := Lib.hid (tx_ws HB.out hb hk (show (toS (hxL [opB l x])).size ≤ 14 from by have := HP.out.2.2.2.2.2.1; simpa [ByteArray.size, toS, hxB] using this))
          clear hb hk
          have cb := cell_of_row _ _ 0 _ _ _ ((HB.out.2.1.2 w.heap.size (by omega) (by omega) (by have := HP.out.2.1; omega)).trans HF.out.1)
          have HV2 : Hid (Bto B Z2 (.slice x0 n c0) l) := Lib.hid (HF.out.2.2.2.1.kept HB.out.2.1.1.size (fun i hi hx => HB.out.2.1.2 i (by have := HL.out; omega) (by have := HL.out; omega) hx))
          gi_wp2_with fail
          refine ⟨trivial, ?_⟩
          refine (callsIn_wide.2 (behind_any B (.slice x0 n c0) l (pos l x) HL.out.1 HP.out.2.2.1 _ HV2.out)).mono ?_
          rintro e Z3 ⟨g, rfl, hg, hbk, hw3⟩
          replace HB := Lib.hid (tx_below HB.out (by have := HP.out.2.1; omega) hw3)
          have HG := Lib.hid hbk
          clear hbk hw3 cb
          gi_wp2_with fail
          have hfin := HFIN.out _ _ HB.out.1 HB.out.2.1 (by rw [HOP.out]; simp [toS, hxB])
          exact hfin
        · have q1 : ((nmO (opB l x)).toList == []) = true := by have := nm_toList (oi (opB l x)); rw [e1] at this; exact this
          have n1 : nmB (opB l x) = hxB [opB l x] := by unfold nmB; rw [if_pos e1]
          have HA := Lib.hid (bytesText_any (X.alloc (.cells #[.int .u8 (opB l x : Nat)] 5)).heap.size (.slice (some ⟨X.heap.size, 0, none⟩) 1 1) [opB l x] (by simp) (X.alloc (.cells #[.int .u8 (opB l x : Nat)] 5)) (Nat.le_refl _) (Bto.of_blk (l := [opB l x]) (Blk.new X 5 #[.int .u8 (opB l x : Nat)]) (fun z hz => by simp at hz; subst hz; exact HP.out.2.2.2.2.1) (by simp)))
          have q2 : (0 : Int) < (pos l x : Int) := by omega
          have n2 : (if pos l x = 0 then ([] : List UInt8) else [32]) = [32] := if_neg e2
          have q3 : (0 : Int) < ((bhL l (pos l x)).length : Int) := by rw [HP.out.2.2.2.2.2.2.2.2.1]; omega
          have n3 : (if szO (opB l x) = 0 then ([] : List UInt8) else 32 :: hxB (bhL l (pos l x))) = 32 :: hxB (bhL l (pos l x)) := if_neg e3
          rw [n1, n2, n3] at HOP
          have HE := Lib.hid (And.intro e1 (And.intro e2 e3))
          rw [n1] at HP
          clear n1 n2 n3 e1 e2 e3
          gi_wp2_with fail
          refine ⟨trivial, ?_⟩
          refine (callsIn_wide.2 HA.out).mono ?_
          rintro e X1 ⟨rfl, hw1⟩
          replace HB := Lib.hid (tx_new HB.out HP.out.2.1 hw1)
          clear HA hw1 q1 cN cb0
          gi_wp2_with fail
          refine ⟨trivial, ?_⟩
          refine (callsIn_wide.2 (ws_any (Q + 1) (Q + 5) _ ⟨#[32]⟩ _ HB.out.1 (by omega) (Nat.le_trans HP.out.2.1 HB.out.2.1.1.size) (Nat.le_trans (Nat.add_le_add HB.out.2.2 (Nat.le_refl 1)) (by have := HP.out.2.2.2.1; omega)))).mono ?_
          rintro e Z1 ⟨rfl, hb, hk⟩
          replace HB := Lib.hid (tx_ws HB.out hb hk (Nat.le_refl 1))
          clear hb hk
          gi_wp2_with fail
          refine ⟨trivial, ?_⟩
          refine (callsIn_wide.2 (ws_any (Q + 1) (Q + 5) _ (toS (hxL [opB l x])) _ HB.out.1 (by omega) (Nat.le_trans HP.out.2.1 HB.out.2.1.1.size) (Nat.le_trans (Nat.add_le_add HB.out.2.2 (show (toS (hxL [opB l x])).size ≤ 14 from by have := HP.out.2.2.2.2.2.1; simpa [ByteArray.size, toS, hxB] using this)) (by have := HP.out.2.2.2.1; omega)))).mono ?_
          rintro e Z2 ⟨rfl, hb, hk⟩
          replace HB := Lib.hid (tx_ws HB.out hb hk (show (toS (hxL [opB l x])).size ≤ 14 from by have := HP.out.2.2.2.2.2.1; simpa [ByteArray.size, toS, hxB] using this))
          clear hb hk
          have cb := cell_of_row _ _ 0 _ _ _ ((HB.out.2.1.2 w.heap.size (by omega) (by omega) (by have := HP.out.2.1; omega)).trans HF.out.1)
          have HV2 : Hid (Bto B Z2 (.slice x0 n c0) l) := Lib.hid (HF.out.2.2.2.1.kept HB.out.2.1.1.size (fun i hi hx => HB.out.2.1.2 i (by have := HL.out; omega) (by have := HL.out; omega) hx))
          gi_wp2_with fail
          refine ⟨trivial, ?_⟩
          refine (callsIn_wide.2 (behind_any B (.slice x0 n c0) l (pos l x) HL.out.1 HP.out.2.2.1 _ HV2.out)).mono ?_
          rintro e Z3 ⟨g, rfl, hg, hbk, hw3⟩
          replace HB := Lib.hid (tx_below HB.out (by have := HP.out.2.1; omega) hw3)
          have HG := Lib.hid hbk
          clear hbk hw3 cb
          gi_wp2_with fail
          refine ⟨trivial, ?_⟩
          refine (callsIn_wide.2 (bytesText_any Z3.heap.size _ (bhL l (pos l x)) (by have := HP.out; omega) Z3 (Nat.le_refl _) (Bto.of_blk HG.out HP.out.2.2.2.2.2.2.2.2.2 (by have := HP.out; omega)))).mono ?_
          rintro e Z4 ⟨rfl, hw4⟩
          replace HB := Lib.hid (tx_below HB.out (by have := HP.out.2.1; omega) hw4)
          clear hw4
          have hbz : (toS (hxL (bhL l (pos l x)))).size ≤ 66 := by
            have h1 := hxB_len (bhL l (pos l x))
            have h2 := HP.out
            simp only [toS, ByteArray.size, List.size_toArray]
            unfold hxB at h1
            omega
          have hcc : ¬ 9223372036854775807 < 1 + (toS (hxL (bhL l (pos l x)))).size := by omega
          have hR0 : ((⟨#[32]⟩ : ByteArray) ++ toS (hxL (bhL l (pos l x)))).data.toList = 32 :: hxB (bhL l (pos l x)) := by
            rw [ByteArray.data_append]
            simp [toS, hxB]
          have hRz : ((⟨#[32]⟩ : ByteArray) ++ toS (hxL (bhL l (pos l x)))).size ≤ 67 := by rw [ByteArray.size_append]; show 1 + _ ≤ 67; omega
          generalize hRR : (⟨#[32]⟩ : ByteArray) ++ toS (hxL (bhL l (pos l x))) = R at *
          have HRZ := Lib.hid (And.intro hRz hR0)
          clear hRz hR0 hbz
          gi_wp2_with fail
          refine ⟨trivial, ?_⟩
          refine (callsIn_wide.2 (ws_any (Q + 1) (Q + 5) _ R _ HB.out.1 (by omega) (Nat.le_trans HP.out.2.1 HB.out.2.1.1.size) (Nat.le_trans (Nat.add_le_add HB.out.2.2 HRZ.out.1) (by have := HP.out.2.2.2.1; omega)))).mono ?_
          rintro e Z5 ⟨rfl, hb, hk⟩
          replace HB := Lib.hid (tx_ws HB.out hb hk HRZ.out.1)
          clear hb hk
          gi_wp2_with fail
          have hfin := HFIN.out _ _ HB.out.1 HB.out.2.1 (by rw [HOP.out]; simp [toS, hxB, HRZ.out.2])
          exact hfin
    · by_cases e2 : pos l x = 0
      · by_cases e3 : szO (opB l x) = 0
        · have q1 : ((nmO (opB l x)).toList == []) = false := by have := nm_toList (oi (opB l x)); simp only [Bool.not_eq_true] at e1; rw [e1] at this; exact this
          have n1 : nmB (opB l x) = (nmO (opB l x)).data.toList := by unfold nmB; rw [if_neg e1]; rfl
          have q2 : ¬ (0 : Int) < (pos l x : Int) := by omega
          have n2 : (if pos l x = 0 then ([] : List UInt8) else [32]) = [] := if_pos e2
          have q3 : ¬ (0 : Int) < ((bhL l (pos l x)).length : Int) := by rw [HP.out.2.2.2.2.2.2.2.2.1, e3]; simp
          have n3 : (if szO (opB l x) = 0 then ([] : List UInt8) else 32 :: hxB (bhL l (pos l x))) = [] := if_pos e3
          rw [n1, n2, n3] at HOP
          have HE := Lib.hid (And.intro e1 (And.intro e2 e3))
          rw [n1] at HP
          clear n1 n2 n3 e1 e2 e3
          gi_wp2_with fail
          refine ⟨trivial, ?_⟩
          refine (callsIn_wide.2 (ws_any (Q + 1) (Q + 5) _ (nmO (opB l x)) _ HB.out.1 (by omega) (Nat.le_trans HP.out.2.1 HB.out.2.1.1.size) (Nat.le_trans (Nat.add_le_add HB.out.2.2 (show (nmO (opB l x)).size ≤ 14 from HP.out.2.2.2.2.2.1)) (by have := HP.out.2.2.2.1; omega)))).mono ?_
          rintro e Z2 ⟨rfl, hb, hk⟩
          replace HB := Lib.hid (tx_ws HB.out hb hk (show (nmO (opB l x)).size ≤ 14 from HP.out.2.2.2.2.2.1))
          clear hb hk
          have cb := cell_of_row _ _ 0 _ _ _ ((HB.out.2.1.2 w.heap.size (by omega) (by omega) (by have := HP.out.2.1; omega)).trans HF.out.1)
          have HV2 : Hid (Bto B Z2 (.slice x0 n c0) l) := Lib.hid (HF.out.2.2.2.1.kept HB.out.2.1.1.size (fun i hi hx => HB.out.2.1.2 i (by have := HL.out; omega) (by have := HL.out; omega) hx))
          gi_wp2_with fail
          refine ⟨trivial, ?_⟩
          refine (callsIn_wide.2 (behind_any B (.slice x0 n c0) l (pos l x) HL.out.1 HP.out.2.2.1 _ HV2.out)).mono ?_
          rintro e Z3 ⟨g, rfl, hg, hbk, hw3⟩
          replace HB := Lib.hid (tx_below HB.out (by have := HP.out.2.1; omega) hw3)
          have HG := Lib.hid hbk
          clear hbk hw3 cb
          gi_wp2_with fail
          have hfin := HFIN.out _ _ HB.out.1 HB.out.2.1 (by rw [HOP.out]; simp)
          exact hfin
        · have q1 : ((nmO (opB l x)).toList == []) = false := by have := nm_toList (oi (opB l x)); simp only [Bool.not_eq_true] at e1; rw [e1] at this; exact this
          have n1 : nmB (opB l x) = (nmO (opB l x)).data.toList := by unfold nmB; rw [if_neg e1]; rfl
          have q2 : ¬ (0 : Int) < (pos l x : Int) := by omega
          have n2 : (if pos l x = 0 then ([] : List UInt8) else [32]) = [] := if_pos e2
          have q3 : (0 : Int) < ((bhL l (pos l x)).length : Int) := by rw [HP.out.2.2.2.2.2.2.2.2.1]; omega
          have n3 : (if szO (opB l x) = 0 then ([] : List UInt8) else 32 :: hxB (bhL l (pos l x))) = 32 :: hxB (bhL l (pos l x)) := if_neg e3
          rw [n1, n2, n3] at HOP
          have HE := Lib.hid (And.intro e1 (And.intro e2 e3))
          rw [n1] at HP
          clear n1 n2 n3 e1 e2 e3
          gi_wp2_with fail
          refine ⟨trivial, ?_⟩
          refine (callsIn_wide.2 (ws_any (Q + 1) (Q + 5) _ (nmO (opB l x)) _ HB.out.1 (by omega) (Nat.le_trans HP.out.2.1 HB.out.2.1.1.size) (Nat.le_trans (Nat.add_le_add HB.out.2.2 (show (nmO (opB l x)).size ≤ 14 from HP.out.2.2.2.2.2.1)) (by have := HP.out.2.2.2.1; omega)))).mono ?_
          rintro e Z2 ⟨rfl, hb, hk⟩
          replace HB := Lib.hid (tx_ws HB.out hb hk (show (nmO (opB l x)).size ≤ 14 from HP.out.2.2.2.2.2.1))
          clear hb hk
          have cb := cell_of_row _ _ 0 _ _ _ ((HB.out.2.1.2 w.heap.size (by omega) (by omega) (by have := HP.out.2.1; omega)).trans HF.out.1)
          have HV2 : Hid (Bto B Z2 (.slice x0 n c0) l) := Lib.hid (HF.out.2.2.2.1.kept HB.out.2.1.1.size (fun i hi hx => HB.out.2.1.2 i (by have := HL.out; omega) (by have := HL.out; omega) hx))
          gi_wp2_with fail
          refine ⟨trivial, ?_⟩
          refine (callsIn_wide.2 (behind_any B (.slice x0 n c0) l (pos l x) HL.out.1 HP.out.2.2.1 _ HV2.out)).mono ?_
          rintro e Z3 ⟨g, rfl, hg, hbk, hw3⟩
          replace HB := Lib.hid (tx_below HB.out (by have := HP.out.2.1; omega) hw3)
          have HG := Lib.hid hbk
          clear hbk hw3 cb
          gi_wp2_with fail
          refine ⟨trivial, ?_⟩
          refine (callsIn_wide.2 (bytesText_any Z3.heap.size _ (bhL l (pos l x)) (by have := HP.out; omega) Z3 (Nat.le_refl _) (Bto.of_blk HG.out HP.out.2.2.2.2.2.2.2.2.2 (by have := HP.out; omega)))).mono ?_
          rintro e Z4 ⟨rfl, hw4⟩
          replace HB := Lib.hid (tx_below HB.out (by have := HP.out.2.1; omega) hw4)
          clear hw4
          have hbz : (toS (hxL (bhL l (pos l x)))).size ≤ 66 := by
            have h1 := hxB_len (bhL l (pos l x))
            have h2 := HP.out
            simp only [toS, ByteArray.size, List.size_toArray]
            unfold hxB at h1
            omega
          have hcc : ¬ 9223372036854775807 < 1 + (toS (hxL (bhL l (pos l x)))).size := by omega
          have hR0 : ((⟨#[32]⟩ : ByteArray) ++ toS (hxL (bhL l (pos l x)))).data.toList = 32 :: hxB (bhL l (pos l x)) := by
            rw [ByteArray.data_append]
            simp [toS, hxB]
          have hRz : ((⟨#[32]⟩ : ByteArray) ++ toS (hxL (bhL l (pos l x)))).size ≤ 67 := by rw [ByteArray.size_append]; show 1 + _ ≤ 67; omega
          generalize hRR : (⟨#[32]⟩ : ByteArray) ++ toS (hxL (bhL l (pos l x))) = R at *
          have HRZ := Lib.hid (And.intro hRz hR0)
          clear hRz hR0 hbz
          gi_wp2_with fail
          refine ⟨trivial, ?_⟩
          refine (callsIn_wide.2 (ws_any (Q + 1) (Q + 5) _ R _ HB.out.1 (by omega) (Nat.le_trans HP.out.2.1 HB.out.2.1.1.size) (Nat.le_trans (Nat.add_le_add HB.out.2.2 HRZ.out.1) (by have := HP.out.2.2.2.1; omega)))).mono ?_
          rintro e Z5 ⟨rfl, hb, hk⟩
          replace HB := Lib.hid (tx_ws HB.out hb hk HRZ.out.1)
          clear hb hk
          gi_wp2_with fail
          have hfin := HFIN.out _ _ HB.out.1 HB.out.2.1 (by rw [HOP.out]; simp [HRZ.out.2])
          exact hfin
      · by_cases e3 : szO (opB l x) = 0
        · have q1 : ((nmO (opB l x)).toList == []) = false := by have := nm_toList (oi (opB l x)); simp only [Bool.not_eq_true] at e1; rw [e1] at this; exact this
          have n1 : nmB (opB l x) = (nmO (opB l x)).data.toList := by unfold nmB; rw [if_neg e1]; rfl
          have q2 : (0 : Int) < (pos l x : Int) := by omega
          have n2 : (if pos l x = 0 then ([] : List UInt8) else [32]) = [32] := if_neg e2
          have q3 : ¬ (0 : Int) < ((bhL l (pos l x)).length : Int) := by rw [HP.out.2.2.2.2.2.2.2.2.1, e3]; simp
          have n3 : (if szO (opB l x) = 0 then ([] : List UInt8) else 32 :: hxB (bhL l (pos l x))) = [] := if_pos e3
          rw [n1, n2, n3] at HOP
          have HE := Lib.hid (And.intro e1 (And.intro e2 e3))
          rw [n1] at HP
          clear n1 n2 n3 e1 e2 e3
          gi_wp2_with fail
          refine ⟨trivial, ?_⟩
          refine (callsIn_wide.2 (ws_any (Q + 1) (Q + 5) _ ⟨#[32]⟩ _ HB.out.1 (by omega) (Nat.le_trans HP.out.2.1 HB.out.2.1.1.size) (Nat.le_trans (Nat.add_le_add HB.out.2.2 (Nat.le_refl 1)) (by have := HP.out.2.2.2.1; omega)))).mono ?_
          rintro e Z1 ⟨rfl, hb, hk⟩
          replace HB := Lib.hid (tx_ws HB.out hb hk (Nat.le_refl 1))
          clear hb hk
          gi_wp2_with fail
          refine ⟨trivial, ?_⟩
          refine (callsIn_wide.2 (ws_any (Q + 1) (Q + 5) _ (nmO (opB l x)) _ HB.out.1 (by omega) (Nat.le_trans HP.out.2.1 HB.out.2.1.1.size) (Nat.le_trans (Nat.add_le_add HB.out.2.2 (show (nmO (opB l x)).size ≤ 14 from HP.out.2.2.2.2.2.1)) (by have := HP.out.2.2.2.1; omega)))).mono ?_
          rintro e Z2 ⟨rfl, hb, hk⟩
          replace HB := Lib.hid (tx_ws HB.out hb hk (show (nmO (opB l x)).size ≤ 14 from HP.out.2.2.2.2.2.1))
          clear hb hk
          have cb := cell_of_row _ _ 0 _ _ _ ((HB.out.2.1.2 w.heap.size (by omega) (by omega) (by have := HP.out.2.1; omega)).trans HF.out.1)
          have HV2 : Hid (Bto B Z2 (.slice x0 n c0) l) := Lib.hid (HF.out.2.2.2.1.kept HB.out.2.1.1.size (fun i hi hx => HB.out.2.1.2 i (by have := HL.out; omega) (by have := HL.out; omega) hx))
          gi_wp2_with fail
          refine ⟨trivial, ?_⟩
          refine (callsIn_wide.2 (behind_any B (.slice x0 n c0) l (pos l x) HL.out.1 HP.out.2.2.1 _ HV2.out)).mono ?_
          rintro e Z3 ⟨g, rfl, hg, hbk, hw3⟩
          replace HB := Lib.hid (tx_below HB.out (by have := HP.out.2.1; omega) hw3)
          have HG := Lib.hid hbk
          clear hbk hw3 cb
          gi_wp2_with fail
          have hfin := HFIN.out _ _ HB.out.1 HB.out.2.1 (by rw [HOP.out]; simp)
          exact hfin
        · have q1 : ((nmO (opB l x)).toList == []) = false := by have := nm_toList (oi (opB l x)); simp only [Bool.not_eq_true] at e1; rw [e1] at this; exact this
          have n1 : nmB (opB l x) = (nmO (opB l x)).data.toList := by unfold nmB; rw [if_neg e1]; rfl
          have q2 : (0 : Int) < (pos l x : Int) := by omega
          have n2 : (if pos l x = 0 then ([] : List UInt8) else [32]) = [32] := if_neg e2
          have q3 : (0 : Int) < ((bhL l (pos l x)).length : Int) := by rw [HP.out.2.2.2.2.2.2.2.2.1]; omega
          have n3 : (if szO (opB l x) = 0 then ([] : List UInt8) else 32 :: hxB (bhL l (pos l x))) = 32 :: hxB (bhL l (pos l x)) := if_neg e3
          rw [n1, n2, n3] at HOP
          have HE := Lib.hid (And.intro e1 (And.intro e2 e3))
          rw [n1] at HP
          clear n1 n2 n3 e1 e2 e3
          gi_wp2_with fail
          refine ⟨trivial, ?_⟩
          refine (callsIn_wide.2 (ws_any (Q + 1) (Q + 5) _ ⟨#[32]⟩ _ HB.out.1 (by omega) (Nat.le_trans HP.out.2.1 HB.out.2.1.1.size) (Nat.le_trans (Nat.add_le_add HB.out.2.2 (Nat.le_refl 1)) (by have := HP.out.2.2.2.1; omega)))).mono ?_
          rintro e Z1 ⟨rfl, hb, hk⟩
          replace HB := Lib.hid (tx_ws HB.out hb hk (Nat.le_refl 1))
          clear hb hk
          gi_wp2_with fail
          refine ⟨trivial, ?_⟩
          refine (callsIn_wide.2 (ws_any (Q + 1) (Q + 5) _ (nmO (opB l x)) _ HB.out.1 (by omega) (Nat.le_trans HP.out.2.1 HB.out.2.1.1.size) (Nat.le_trans (Nat.add_le_add HB.out.2.2 (show (nmO (opB l x)).size ≤ 14 from HP.out.2.2.2.2.2.1)) (by have := HP.out.2.2.2.1; omega)))).mono ?_
          rintro e Z2 ⟨rfl, hb, hk⟩
          replace HB := Lib.hid (tx_ws HB.out hb hk (show (nmO (opB l x)).size ≤ 14 from HP.out.2.2.2.2.2.1))
          clear hb hk
          have cb := cell_of_row _ _ 0 _ _ _ ((HB.out.2.1.2 w.heap.size (by omega) (by omega) (by have := HP.out.2.1; omega)).trans HF.out.1)
          have HV2 : Hid (Bto B Z2 (.slice x0 n c0) l) := Lib.hid (HF.out.2.2.2.1.kept HB.out.2.1.1.size (fun i hi hx => HB.out.2.1.2 i (by have := HL.out; omega) (by have := HL.out; omega) hx))
          gi_wp2_with fail
          refine ⟨trivial, ?_⟩
          refine (callsIn_wide.2 (behind_any B (.slice x0 n c0) l (pos l x) HL.out.1 HP.out.2.2.1 _ HV2.out)).mono ?_
          rintro e Z3 ⟨g, rfl, hg, hbk, hw3⟩
          replace HB := Lib.hid (tx_below HB.out (by have := HP.out.2.1; omega) hw3)
          have HG := Lib.hid hbk
          clear hbk hw3 cb
          gi_wp2_with fail
          refine ⟨trivial, ?_⟩
          refine (callsIn_wide.2 (bytesText_any Z3.heap.size _ (bhL l (pos l x)) (by have := HP.out; omega) Z3 (Nat.le_refl _) (Bto.of_blk HG.out HP.out.2.2.2.2.2.2.2.2.2 (by have := HP.out; omega)))).mono ?_
          rintro e Z4 ⟨rfl, hw4⟩
          replace HB := Lib.hid (tx_below HB.out (by have := HP.out.2.1; omega) hw4)
          clear hw4
          have hbz : (toS (hxL (bhL l (pos l x)))).size ≤ 66 := by
            have h1 := hxB_len (bhL l (pos l x))
            have h2 := HP.out
            simp only [toS, ByteArray.size, List.size_toArray]
            unfold hxB at h1
            omega
          have hcc : ¬ 9223372036854775807 < 1 + (toS (hxL (bhL l (pos l x)))).size := by omega
          have hR0 : ((⟨#[32]⟩ : ByteArray) ++ toS (hxL (bhL l (pos l x)))).data.toList = 32 :: hxB (bhL l (pos l x)) := by
            rw [ByteArray.data_append]
            simp [toS, hxB]
          have hRz : ((⟨#[32]⟩ : ByteArray) ++ toS (hxL (bhL l (pos l x)))).size ≤ 67 := by rw [ByteArray.size_append]; show 1 + _ ≤ 67; omega
          generalize hRR : (⟨#[32]⟩ : ByteArray) ++ toS (hxL (bhL l (pos l x))) = R at *
          have HRZ := Lib.hid (And.intro hRz hR0)
          clear hRz hR0 hbz
          gi_wp2_with fail
          refine ⟨trivial, ?_⟩
          refine (callsIn_wide.2 (ws_any (Q + 1) (Q + 5) _ R _ HB.out.1 (by omega) (Nat.le_trans HP.out.2.1 HB.out.2.1.1.size) (Nat.le_trans (Nat.add_le_add HB.out.2.2 HRZ.out.1) (by have := HP.out.2.2.2.1; omega)))).mono ?_
          rintro e Z5 ⟨rfl, hb, hk⟩
          replace HB := Lib.hid (tx_ws HB.out hb hk HRZ.out.1)
          clear hb hk
          gi_wp2_with fail
          have hfin := HFIN.out _ _ HB.out.1 HB.out.2.1 (by rw [HOP.out]; simp [HRZ.out.2])
          exact hfin
end Go.Proofs.YtcdmaapjcckbmaaDoor
