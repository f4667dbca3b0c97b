/-
  The law FlowBalance, for every graph.
-/
import Derived.Test.YtnfnjnaheckdbaaFlN0
import Derived.Test.YtnfnjnaheckdbaaFlBb
namespace Go.Proofs.Ytnfnjnaheckdbaa
open Go.Vm Go.Fl

theorem law8 {d e : DV} {n : Int} {L : List LZ} {o : List Int} (hd : Lks d L) (hl : L.length ≤ 9223372036854775807) (he : Ints e o) (hel : o.length ≤ 9223372036854775807) : DeepCall Try.prog 8 [.agg [DI n, d], e] (DB true) := by
  by_cases hE : (repA n (L.take 12)).2 = 0
  · obtain ⟨N, Ln, q, h1, h2, hr⟩ := repG_of hE
    obtain ⟨h3, h4⟩ := take12 h2 hr.len
    subst h1 h3
    cases hf : first0 Ln N q with
    | none => exact bal_loop hd hr h4 hf
    | some s => exact bal_main hd hr h4 he hel hf
  · exact bal_err hd hl hE
end Go.Proofs.Ytnfnjnaheckdbaa
