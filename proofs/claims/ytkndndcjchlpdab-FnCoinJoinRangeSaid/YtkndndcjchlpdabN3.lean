/- What impl's list of shards is, and whether a shard belongs to data, each by a walk of its text; conditions: a list that is read has fewer than 2^40 elements and fits its capacity. -/
import Derived.Test.YtkndndcjchlpdabK3
namespace Go.Proofs.Ytkndndcjchlpdab
open Go.RowKit Go.Shelf

