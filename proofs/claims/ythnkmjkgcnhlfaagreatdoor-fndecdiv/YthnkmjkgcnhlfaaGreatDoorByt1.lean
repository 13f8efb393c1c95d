/- How long bytes that came in are. -/
import Derived.Test.YthnkmjkgcnhlfaaGreatDoorH02
namespace Go.Proofs.YthnkmjkgcnhlfaaGreatDoor

theorem byt_len {w : World} {v : Value} (h : Byt w v) : ∃ ao n cap, v = .slice ao n cap ∧ n ≤ 9223372036854775807 := by
  obtain ⟨ao, b, off, n, cap, rfl, h1, h2, _⟩ := h
  exact ⟨ao, n, cap, rfl, by omega⟩

end Go.Proofs.YthnkmjkgcnhlfaaGreatDoor
