/- Lengths of streams. -/
import Derived.Test.YtgpofkabidginaaWdn
namespace Go.Proofs.Ytgpofkabidginaa
open Go.ChangeShapes Go.WideShapes Go.ChangeAt Go.RowKit Go.ChangeMaps

theorem split_len : ∀ (n : Nat) (s : List UInt8), (splitM n s).length ≤ n
  | 0, _ => by simp [splitM]
  | n + 1, s => by
    unfold splitM
    split
    · simp
    · split
      · simp
      · have := split_len n (s.drop (4 + rd4 s))
        simp only [List.length_cons]
        omega
theorem recs_len {L : List Rw} {s : List UInt8} {n : Nat} (h : L.map Rw.l = splitA s) (hs : s.length ≤ n) : L.length ≤ n := by
  have h1 := congrArg List.length h
  rw [List.length_map] at h1
  have h2 := split_len s.length s
  unfold splitA at h1
  omega
theorem stream_len (e : Nat) : ∀ (seg : List (List UInt8)), (streamM e seg).length ≤ 59 * seg.length
  | [] => by simp [streamM]
  | b :: bs => by
    unfold streamM
    split
    · simp
    · rename_i h
      have h1 : cnt b ≤ 59 := by omega
      have ih := stream_len e bs
      rw [List.length_append, List.length_take, List.length_cons]
      split
      · simp; omega
      · omega
end Go.Proofs.Ytgpofkabidginaa
