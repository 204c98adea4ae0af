/- What the walks of the laws of houses share. Plain facts of worlds; nothing is walked here. -/
import Derived.Test.YtclcehfaoeoipaaDoorHFns
namespace Go.Proofs.YtclcehfaoeoipaaDoor
open Go.RowKit

theorem form_made {w : World} {lo cap : Nat} {ao : Option Addr} {rs : List R} (h : Made w lo (.slice ao rs.length cap) rs) : Form (.slice ao rs.length cap) rs.length := by
  rcases h.form with ⟨rfl, rfl, rfl⟩ | ⟨g, rfl, hc⟩
  · exact Or.inl ⟨rfl, rfl⟩
  · exact Or.inr ⟨g, cap, rfl, hc⟩

end Go.Proofs.YtclcehfaoeoipaaDoor
