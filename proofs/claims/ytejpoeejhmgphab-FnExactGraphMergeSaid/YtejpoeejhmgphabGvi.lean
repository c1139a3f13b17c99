/- impl's functions of chapter 11 in one form, as the laws' walks want them; conditions: lists are shorter than 2^40 (a graph: 2^20). -/
import Derived.Test.YtejpoeejhmgphabRows
import Derived.Test.YtejpoeejhmgphabGpa
import Derived.Test.YtejpoeejhmgphabGpb
import Derived.Test.YtejpoeejhmgphabGpc
namespace Go.Proofs.Ytejpoeejhmgphab
open Go.RowKit

theorem impl_GraphValid (ac : Option Addr) (capc : Nat) (c : List Int) (g : List Vx) (v : Value) (fp : List Nat) (w : World) (hn : c.length ≤ 1099511627776) (hbig : g.length ≤ 1048576) (hps : ∀ x ∈ g, x.ps.length ≤ 1099511627776) (_hcc : c.length ≤ capc) (hc : IntsAt w ac c) (hg : Gr w g v fp) :
    Calls Try.prog 21 #[.slice ac c.length capc, v] w fun e w' => e = .returned (.bool (graphB c g)) ∧ Below w.heap.size w w' :=
  impl_GraphValid' ac capc c g v fp w hn hbig hps hc hg

theorem impl_GraphFind (ac : Option Addr) (capc : Nat) (c : List Int) (g : List Vx) (v : Value) (fp : List Nat) (r a : Int) (w : World) (hn : c.length ≤ 1099511627776) (hbig : g.length ≤ 1048576) (hps : ∀ x ∈ g, x.ps.length ≤ 1099511627776) (_hcc : c.length ≤ capc) (hc : IntsAt w ac c) (hg : Gr w g v fp) :
    Calls Try.prog 24 #[.slice ac c.length capc, v, .int .i64 r, .int .i64 a] w fun e w' => e = .returned (.int .i64 (gfZ c g r a)) ∧ Below w.heap.size w w' :=
  impl_GraphFind' ac capc c g v fp r a w hn hbig hps hc hg

theorem impl_GraphHeight (ac : Option Addr) (capc : Nat) (c : List Int) (g : List Vx) (v : Value) (fp : List Nat) (w : World) (hn : c.length ≤ 1099511627776) (hbig : g.length ≤ 1048576) (hps : ∀ x ∈ g, x.ps.length ≤ 1099511627776) (_hcc : c.length ≤ capc) (hc : IntsAt w ac c) (hg : Gr w g v fp) :
    Calls Try.prog 37 #[.slice ac c.length capc, v] w fun e w' => e = .returned (.int .i64 (ghZ c g)) ∧ Below w.heap.size w w' :=
  impl_GraphHeight' ac capc c g v fp w hn hbig hps hc hg

theorem impl_GraphAuthors (ac : Option Addr) (capc : Nat) (c : List Int) (g : List Vx) (v : Value) (fp : List Nat) (r : Int) (w : World) (hn : c.length ≤ 1099511627776) (hbig : g.length ≤ 1048576) (hps : ∀ x ∈ g, x.ps.length ≤ 1099511627776) (_hcc : c.length ≤ capc) (hc : IntsAt w ac c) (hg : Gr w g v fp) :
    Calls Try.prog 35 #[.slice ac c.length capc, v, .int .i64 r] w fun e w' => ∃ u, e = .returned u ∧ Own 3 w' w.heap.size u (gaZ c g r) ∧ Below w.heap.size w w' :=
  impl_GraphAuthors' ac capc c g v fp r w hn hbig hps hc hg

theorem impl_GraphPast (ac : Option Addr) (capc : Nat) (c : List Int) (g : List Vx) (v : Value) (fp : List Nat) (r a : Int) (w : World) (hn : c.length ≤ 1099511627776) (hbig : g.length ≤ 1048576) (hps : ∀ x ∈ g, x.ps.length ≤ 1099511627776) (_hcc : c.length ≤ capc) (hc : IntsAt w ac c) (hg : Gr w g v fp) :
    Calls Try.prog 32 #[.slice ac c.length capc, v, .int .i64 r, .int .i64 a] w fun e w' => ∃ u, e = .returned u ∧ Own 3 w' w.heap.size u (gpZ c g r a) ∧ Below w.heap.size w w' :=
  impl_GraphPast' ac capc c g v fp r a w hn hbig hps hc hg

theorem impl_VertexValid (ac : Option Addr) (capc : Nat) (c : List Int) (x : Vx) (pa : Option Addr) (pc : Nat) (w : World) (hn : c.length ≤ 1099511627776) (hbig : x.ps.length ≤ 1099511627776) (_hcc : c.length ≤ capc) (hc : IntsAt w ac c) (_hpc : x.ps.length ≤ pc) (hp : IntsAt w pa x.ps) (_hs : SrcAt w pa pc x.ps) :
    Calls Try.prog 15 #[.slice ac c.length capc, .agg #[.int .i64 x.r, .int .i64 x.a, .slice pa x.ps.length pc, .int .i64 x.d]] w fun e w' => e = .returned (.bool (vvB c x)) ∧ Below w.heap.size w w' :=
  impl_VertexValid' ac capc c x pa pc w hn hbig hc hp

theorem impl_GraphAdd (ac : Option Addr) (capc : Nat) (c : List Int) (g : List Vx) (v : Value) (fp : List Nat) (x : Vx) (pa : Option Addr) (pc : Nat) (w : World) (hn : c.length ≤ 1099511627776) (hbig : g.length ≤ 1048576) (hps : ∀ y ∈ g, y.ps.length ≤ 1099511627776) (hbp : x.ps.length ≤ 1099511627776) (_hcc : c.length ≤ capc) (hc : IntsAt w ac c) (hg : Gr w g v fp) (_hpc : x.ps.length ≤ pc) (hs : SrcAt w pa pc x.ps) (hi : IntsAt w pa x.ps) :
    Calls Try.prog 26 #[.slice ac c.length capc, v, .agg #[.int .i64 x.r, .int .i64 x.a, .slice pa x.ps.length pc, .int .i64 x.d]] w fun e w' => ∃ u, e = .returned (.tuple #[u, .int .i64 (gaN c g x)]) ∧ OwnR 28 3 4 w' w.heap.size w'.heap.size u ((gaG c g x).map Vx.fd) ∧ Below w.heap.size w w' :=
  impl_GraphAdd' ac capc c g v fp x pa pc w hn hbig hps hbp hc hg hs hi

theorem impl_GraphMerge (ac : Option Addr) (capc : Nat) (c : List Int) (a b : List Vx) (va vb : Value) (fa fb : List Nat) (w : World) (hn : c.length ≤ 1099511627776) (hbig : a.length + b.length ≤ 1048576) (hpa : ∀ y ∈ a, y.ps.length ≤ 1099511627776) (hpb : ∀ y ∈ b, y.ps.length ≤ 1099511627776) (_hcc : c.length ≤ capc) (hc : IntsAt w ac c) (ha : Gr w a va fa) (hb : Gr w b vb fb) :
    Calls Try.prog 39 #[.slice ac c.length capc, va, vb] w fun e w' => ∃ u, e = .returned (.tuple #[u, .bool (mgB c a b)]) ∧ OwnR 28 3 4 w' w.heap.size w'.heap.size u ((mgG c a b).map Vx.fd) ∧ Below w.heap.size w w' :=
  impl_GraphMerge' ac capc c a b va vb fa fb w hn hbig hpa hpb hc ha hb

end Go.Proofs.Ytejpoeejhmgphab
