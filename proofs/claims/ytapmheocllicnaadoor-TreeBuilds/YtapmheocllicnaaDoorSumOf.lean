/-
  sha.Sum: the digest of any bytes, in every world that holds the constants, of which nothing that was there turns.
-/
import Derived.Test.YtapmheocllicnaaDoorAbc
namespace Go.Proofs.YtapmheocllicnaaDoor
open Go.RowKit Go.BigFrame
set_option maxHeartbeats 400000 in
theorem write_none (c : Nat) (w : World) : Calls Tryd.prog 41 #[.pointer (some ⟨c, 0, none⟩), .slice none 0 0] w fun e w' => e = .returned (.tuple #[]) ∧ w' = w := by
  go_enter Tryd.func41, Tryd.ntmps41
  go_wp2
  go_loopw [1] (fun v wr => v = .slice none 0 0 ∧ wr = w) (fun _ _ => 0)
  case atStart => exact ⟨rfl, rfl⟩
  case round =>
    obtain ⟨rfl, rfl⟩ := hrel
    go_wp2
    exact bodyPost_end (v := .tuple #[]) (by simp [results, Tryd.results41]) rfl ⟨rfl, rfl⟩
end Go.Proofs.YtapmheocllicnaaDoor
