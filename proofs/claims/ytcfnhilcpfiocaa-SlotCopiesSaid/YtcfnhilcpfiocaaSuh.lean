/- slot: All's iterator as a sequence. -/
import Derived.Test.YtcfnhilcpfiocaaSug
import Derived.Test.YtcfnhilcpfiocaaStz
import Derived.Test.YtcfnhilcpfiocaaXm
namespace Go.Proofs.Ytcfnhilcpfiocaa
open Go.RowKit Go.Shelf Go.ChangeMaps Go.MapKept

def noMs (_ : Nat) : Prop := False
theorem all_seq (n : Nat) (hn : 6 ≤ n) (gk gm n₀ base : Nat) (m : Nat → Option (Nat × Nat)) (l : List Nat) (X0 w : World) (hA : AlB X0 base gk gm m l) (hX0 : X0.heap.size ≤ n₀) (hn₀ : n₀ ≤ w.heap.size) (hw : Below X0.heap.size X0 w) (hll : l.length ≤ 1000000) :
    SeqV n Try.prog 32 #[.pointer (some ⟨gk, 0, none⟩), .pointer (some ⟨gm, 0, none⟩)] (fun x => #[W x, vP (lk m x)]) n₀ noMs (fun _ _ => True) (fun pre x => ∃ k, l[k]? = some x ∧ pre = l.take k) (fun xs => xs = l) (fun pre => ∃ k, k < l.length ∧ pre = l.take (k + 1)) w := by
  intro L J Jx W hW hJ hJx _ hY h0
  refine (all1_in n hn L gk gm n₀ base m l J Jx X0 W hA hX0 (Nat.le_trans hn₀ hW.size) (hw.trans (hW.mono hw.size)) hll (fun s X o h => hJ.new h (balloc (Below.refl _ _) o)) (fun s X h => hJ s X X.drew none h ⟨rfl, rfl, rfl, Nat.le_refl _, fun _ _ _ => rfl⟩ (fun r e => by cases e)) (fun k x X hk hJk => ?_) h0).mono ?_
  · refine YieldAt.mono (hY (l.take k) x X ⟨k, hk, rfl⟩ hJk) ?_
    rintro e Y (⟨h1, h2, h3, h4⟩ | ⟨h1, h2, h3⟩)
    · exact .inl ⟨h1, h2, h3.1, h4⟩
    · exact .inr ⟨h1, h2⟩
  · rintro e Y ⟨h1, h2 | ⟨k, hk, h2⟩⟩
    · exact ⟨h1, .inl ⟨l, rfl, h2⟩⟩
    · exact ⟨h1, .inr ⟨_, ⟨k, hk, rfl⟩, h2⟩⟩
end Go.Proofs.Ytcfnhilcpfiocaa
