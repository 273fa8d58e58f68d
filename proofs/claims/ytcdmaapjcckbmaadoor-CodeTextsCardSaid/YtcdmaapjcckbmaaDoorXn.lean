/- code: the ops of code, and the iterator that goes over them. -/
import Derived.Test.YtcdmaapjcckbmaaDoorXm
import Derived.Test.YtcdmaapjcckbmaaDoorXd
import Derived.Test.YtcdmaapjcckbmaaDoorRa
import Derived.RangeFuncNested
import Derived.RangeFuncBound
import Derived.RangeFuncCalls
import Derived.RangeFuncLeaves
import Derived.Shelf.Abstract
import Derived.Shelf.RegionOpen
import Derived.OwnWalkIn
import Derived.TacticsInMore
import Derived.LoopNIn
import Derived.LoopIn
namespace Go.Proofs.YtcdmaapjcckbmaaDoor
open Go.RowKit Go.Shelf

/-- The op behind the one at a place. -/
def nxt (l : List Nat) (p : Nat) : Nat := p + 1 + szO (l.getD p 0)
/-- The place of op k. -/
def pos (l : List Nat) : Nat → Nat
  | 0 => 0
  | k + 1 => nxt l (pos l k)
theorem szO_le (n : Nat) : szO n ≤ 32 := by unfold szO; split <;> omega
theorem pos_lt (l : List Nat) (k : Nat) : pos l k < pos l (k + 1) := by show _ < nxt l (pos l k); unfold nxt; omega
theorem pos_ge (l : List Nat) (k : Nat) : k ≤ pos l k := by
  induction k with
  | zero => exact Nat.zero_le _
  | succ k ih => have := pos_lt l k; omega
theorem pos_mono (l : List Nat) {i j : Nat} (h : i < j) : pos l i < pos l j := by
  induction j with
  | zero => omega
  | succ j ih =>
    have := pos_lt l j
    by_cases e : i = j
    · subst e; exact this
    · have := ih (by omega); omega
/-- How many ops there are. -/
def opsN (l : List Nat) : Nat := ((List.range (l.length + 1)).find? fun k => l.length ≤ pos l k).getD 0
theorem opsN_spec (l : List Nat) : l.length ≤ pos l (opsN l) ∧ opsN l ≤ l.length ∧ ∀ k, k < opsN l → pos l k < l.length := by
  unfold opsN
  cases h : (List.range (l.length + 1)).find? fun k => decide (l.length ≤ pos l k) with
  | none =>
    rw [List.find?_eq_none] at h
    have := h l.length (List.mem_range.2 (by omega))
    simp at this
    have := pos_ge l l.length
    omega
  | some k =>
    rw [List.find?_range_eq_some] at h
    obtain ⟨h1, h2, h3⟩ := h
    refine ⟨by simpa using h1, ?_, fun j hj => by simpa using h3 j hj⟩
    have := List.mem_range.1 h2
    simp only [Option.getD_some]
    omega
theorem opsN_lt {l : List Nat} {k : Nat} : k < opsN l ↔ pos l k < l.length := by
  have h := opsN_spec l
  constructor
  · exact h.2.2 k
  · intro hk
    rcases Nat.lt_or_ge k (opsN l) with h2 | h2
    · exact h2
    · exfalso
      rcases Nat.eq_or_lt_of_le h2 with h3 | h3
      · rw [h3] at h; omega
      · have := pos_mono l h3; omega
/-- The byte of op k. -/
def opB (l : List Nat) (k : Nat) : Nat := l.getD (pos l k) 0
/-- The places of all ops. -/
def plL (l : List Nat) : List Nat := (List.range (opsN l)).map (pos l)
theorem opB_at {l : List Nat} {k : Nat} (h : pos l k < l.length) : l[pos l k]? = some (opB l k) := by
  unfold opB
  rw [List.getD_eq_getElem?_getD, List.getElem?_eq_getElem h]
  rfl
def noM (_ : Nat) : Prop := False

theorem ops_bd {A B b o cap k : Nat} {l : List Nat} {J : List Nat → World → Prop} (hBd : ∀ pre X, J pre X → Blk X A 32 #[.slice (some ⟨b, o, none⟩) l.length cap] ∧ Bto B X (.slice (some ⟨b, o, none⟩) l.length cap) l) (hp : pos l k < l.length) {pre : List Nat} {X : World} (h : J pre X) :
    X.cell? ⟨A, 0, none⟩ = some (.slice (some ⟨b, o, none⟩) l.length cap) ∧ X.cell? ⟨b, o + pos l k, none⟩ = some (.int .u8 (opB l k : Nat)) := by
  obtain ⟨hA, hb1, x, c, hx, hb3, hb4, hb5⟩ := hBd _ _ h
  obtain ⟨b', o', e', hbB, hbX, hc⟩ := hb5 (by intro e; rw [e] at hp; simp at hp)
  injection hx with h1 h2 h3
  rw [e'] at h1
  have h4 := Option.some.inj h1
  injection h4 with h5 h6
  subst h5; subst h6
  exact ⟨cell_of_row _ _ 0 _ _ _ hA, hc _ _ (opB_at hp)⟩
set_option maxRecDepth 100000 in
set_option maxHeartbeats 4000000 in
theorem ops1_in (n : Nat) (hn : 2 ≤ n) (L A B n₀ : Nat) (v : Value) (l : List Nat) (hl : l.length ≤ 1000000) (J Jx : List Nat → World → Prop) (w : World)
    (hBd : ∀ pre X, J pre X → Blk X A 32 #[v] ∧ Bto B X v l)
    (hY : ∀ pre (x : Nat) X, (pre = List.range x ∧ x < opsN l) → J pre X → YieldAt Fence.wide 0 Tryd.prog L #[.int .i64 (pos l x : Nat), .int .u8 (opB l x : Nat)] X fun e Y => (e = .returned (.bool true) ∧ J (pre ++ [x]) Y ∧ KeptM noM X Y ∧ Below n₀ X Y) ∨ (e = .returned (.bool false) ∧ Jx (pre ++ [x]) Y ∧ KeptM noM X Y))
    (h0 : J [] w) :
    CallsIn Fence.wide n Tryd.prog 64 #[.func (.yield L) #[] #[], .pointer (some ⟨A, 0, none⟩)] w fun e Y => (∃ v, e = .returned v) ∧
      ((∃ xs, xs = List.range (opsN l) ∧ J xs Y) ∨ (∃ pre, (∃ k, pre = List.range (k + 1) ∧ k < opsN l) ∧ Jx pre Y)) := by
  have hN := opsN_spec l
  refine callsIn_of_wp_marks Tryd.func64 rfl trivial ?_ rfl
  simp only [Tryd.ntmps64, List.size_toArray, List.length_cons, List.length_nil, Nat.reduceAdd, Nat.reduceSub, Array.replicate_succ, Array.replicate_zero, List.push_toArray, List.append_toArray, List.nil_append, List.cons_append]
  gi_wp2_with fail
  gi_loopw [3] (fun i wr => ∃ k : Nat, i = .int .i64 (pos l k : Nat) ∧ k ≤ opsN l ∧ J (List.range k) wr) (fun i _ => ((l.length : Int) + 100 - intOf i).toNat)
  case atStart => exact ⟨0, rfl, by omega, h0⟩
  case round =>
    obtain ⟨k, rfl, hk, hj⟩ := hrel
    obtain ⟨hbA, hb1, x, cap, rfl, hb3, hb4, hb5⟩ := hBd _ _ hj
    have c0 := cell_of_row _ _ 0 _ _ _ hbA
    by_cases hlt : k < opsN l
    · have hp := hN.2.2 k hlt
      obtain ⟨b, o, rfl, hbB, hbX, hc⟩ := hb5 (by intro e; rw [e] at hp; simp at hp)
      have c1 := hc _ _ (opB_at hp)
      obtain ⟨fn, tmps, assign, body, hy, hR⟩ := YieldAt.wide (m' := n - 1) (hY _ k _ ⟨rfl, hlt⟩ hj)
      have hop : opB l k < 256 := hb1 _ (List.mem_of_getElem? (opB_at hp))
      have hpI : (pos l k : Int) < (l.length : Int) := by omega
      have hp0 : (0 : Int) ≤ (pos l k : Int) := by omega
      have hnx : pos l (k + 1) = pos l k + 1 + szO (opB l k) := rfl
      have hsz := szO_le (opB l k)
      have g1 : IntKind.i64.wrap (1 + (szO (opB l k) : Int)) = ((1 + szO (opB l k) : Nat) : Int) := by rw [IntWalk.i64_in _ (by omega)]; omega
      have g2 : IntKind.i64.wrap ((pos l k : Int) + ((1 + szO (opB l k) : Nat) : Int)) = (pos l (k + 1) : Int) := by rw [IntWalk.i64_in _ (by omega)]; omega
      have HZ := Lib.hid (fun w => size_any (opB l k) hop w)
      have HI := Lib.hid (And.intro hp (And.intro hlt (pos_lt l k)))
      have hBd2 := Lib.hid (fun X (h : J (List.range (k + 1)) X) => (ops_bd hBd hp h : X.cell? ⟨A, 0, none⟩ = some (.slice (some ⟨b, o, none⟩) l.length cap) ∧ X.cell? ⟨b, o + pos l k, none⟩ = some (.int .u8 (opB l k : Nat))))
      generalize hpk : pos l k = p at *
      generalize hqk : pos l (k + 1) = q at *
      generalize opB l k = z at *
      generalize szO z = m at *
      generalize 1 + m = m1 at *
      generalize hlen : l.length = len at *
      have HLN := Lib.hid (And.intro hpk (And.intro hqk hlen))
      clear hpk hqk hlen hN hb1 hb3 hb4 hb5 hBd hbA hbB hbX hc hY h0 hj hop hnx hsz hp hk hlt hl
      gi_wp2_with fail
      refine ⟨fun _ => by omega, hR.mono ?_⟩
      clear hR hy c0 c1
      rintro e Y (⟨rfl, hj, _, _⟩ | ⟨rfl, hjx, _⟩)
      · rw [← List.range_succ] at hj
        obtain ⟨c0, c1⟩ := hBd2.out Y hj
        have HJ := Lib.hid hj
        clear hj hBd2
        gi_wp2_with (refine ⟨trivial, fun _ => (by omega), ?_⟩; gi_at_call 65; refine (callsIn_wide.2 (HZ.out _)).mono ?_; rintro e w' ⟨rfl, rfl⟩)
        exact ⟨⟨k + 1, by rw [HLN.out.2.1], by have := HI.out; omega, HJ.out⟩, by have := HI.out; simp [intOf]; omega⟩
      · rw [← List.range_succ] at hjx
        have HJ := Lib.hid hjx
        clear hjx hBd2
        gi_wp2_with fail
        exact ⟨_, results_none rfl _ _ _, ⟨_, rfl⟩, .inr ⟨_, ⟨k, rfl, HI.out.2.1⟩, HJ.out⟩⟩
    · obtain rfl : k = opsN l := by omega
      have hpI : ¬ (pos l (opsN l) : Int) < (l.length : Int) := by have := hN.1; omega
      have HJ := Lib.hid hj
      clear hN hb1 hb3 hb4 hb5 hBd hbA hY h0 hj hk hlt hl
      gi_wp2_with fail
      exact ⟨_, results_none rfl _ _ _, ⟨_, rfl⟩, .inl HJ.out⟩
theorem ops_seq (n : Nat) (hn : 2 ≤ n) (A B n₀ : Nat) (v : Value) (l : List Nat) (hl : l.length ≤ 1000000) (w : World) :
    SeqV (α := Nat) n Tryd.prog 64 #[.pointer (some ⟨A, 0, none⟩)] (fun x => #[.int .i64 (pos l x : Nat), .int .u8 (opB l x : Nat)]) n₀ noM (fun _ X => Blk X A 32 #[v] ∧ Bto B X v l)
      (fun pre x => pre = List.range x ∧ x < opsN l) (fun xs => xs = List.range (opsN l)) (fun pre => ∃ k, pre = List.range (k + 1) ∧ k < opsN l) w := by
  intro L J Jx W _ _ _ hBd hY h0
  exact ops1_in n hn L A B n₀ v l hl J Jx W hBd hY h0
end Go.Proofs.YtcdmaapjcckbmaaDoor
