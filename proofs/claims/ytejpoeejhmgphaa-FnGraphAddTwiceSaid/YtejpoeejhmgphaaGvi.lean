/- impl's functions of chapter 11 in one form, as the laws' walks want them; conditions: lists are shorter than 2^40 (a graph: 2^20). -/
import Derived.Test.YtejpoeejhmgphaaRows
import Derived.Test.YtejpoeejhmgphaaGpa
import Derived.Test.YtejpoeejhmgphaaGpb
import Derived.Test.YtejpoeejhmgphaaGpc
namespace Go.Proofs.Ytejpoeejhmgphaa
open Go.RowKit

theorem impl_GraphValid (ac : Option Addr) (capc : Nat) (c : List Int) (g : List Vx) (v : Value) (fp : List Nat) (w : World) (hn : c.length ≤ 1099511627776) (hbig : g.length ≤ 1048576) (hps : ∀ x ∈ g, x.ps.length ≤ 1099511627776) (_hcc : c.length ≤ capc) (hc : IntsAt w ac c) (hg : Gr w g v fp) :
    Calls Try.prog 30 #[.slice ac c.length capc, v] w fun e w' => e = .returned (.bool (graphB c g)) ∧ Below w.heap.size w w' :=
  impl_GraphValid' ac capc c g v fp w hn hbig hps hc hg

theorem impl_GraphFind (ac : Option Addr) (capc : Nat) (c : List Int) (g : List Vx) (v : Value) (fp : List Nat) (r a : Int) (w : World) (hn : c.length ≤ 1099511627776) (hbig : g.length ≤ 1048576) (hps : ∀ x ∈ g, x.ps.length ≤ 1099511627776) (_hcc : c.length ≤ capc) (hc : IntsAt w ac c) (hg : Gr w g v fp) :
    Calls Try.prog 12 #[.slice ac c.length capc, v, .int .i64 r, .int .i64 a] w fun e w' => e = .returned (.int .i64 (gfZ c g r a)) ∧ Below w.heap.size w w' :=
  impl_GraphFind' ac capc c g v fp r a w hn hbig hps hc hg

theorem impl_GraphPast (ac : Option Addr) (capc : Nat) (c : List Int) (g : List Vx) (v : Value) (fp : List Nat) (r a : Int) (w : World) (hn : c.length ≤ 1099511627776) (hbig : g.length ≤ 1048576) (hps : ∀ x ∈ g, x.ps.length ≤ 1099511627776) (_hcc : c.length ≤ capc) (hc : IntsAt w ac c) (hg : Gr w g v fp) :
    Calls Try.prog 21 #[.slice ac c.length capc, v, .int .i64 r, .int .i64 a] w fun e w' => ∃ u, e = .returned u ∧ Own 3 w' w.heap.size u (gpZ c g r a) ∧ Below w.heap.size w w' :=
  impl_GraphPast' ac capc c g v fp r a w hn hbig hps hc hg

theorem impl_GraphAdd (ac : Option Addr) (capc : Nat) (c : List Int) (g : List Vx) (v : Value) (fp : List Nat) (x : Vx) (pa : Option Addr) (pc : Nat) (w : World) (hn : c.length ≤ 1099511627776) (hbig : g.length ≤ 1048576) (hps : ∀ y ∈ g, y.ps.length ≤ 1099511627776) (hbp : x.ps.length ≤ 1099511627776) (_hcc : c.length ≤ capc) (hc : IntsAt w ac c) (hg : Gr w g v fp) (_hpc : x.ps.length ≤ pc) (hs : SrcAt w pa pc x.ps) (hi : IntsAt w pa x.ps) :
    Calls Try.prog 16 #[.slice ac c.length capc, v, .agg #[.int .i64 x.r, .int .i64 x.a, .slice pa x.ps.length pc, .int .i64 x.d]] w fun e w' => ∃ u, e = .returned (.tuple #[u, .int .i64 (gaN c g x)]) ∧ OwnR 30 3 4 w' w.heap.size w'.heap.size u ((gaG c g x).map Vx.fd) ∧ Below w.heap.size w w' :=
  impl_GraphAdd' ac capc c g v fp x pa pc w hn hbig hps hbp hc hg hs hi

end Go.Proofs.Ytejpoeejhmgphaa
