import Derived.Test.YtbacgkfmnccheaaDoorWordsI
namespace Go.Proofs.YtbacgkfmnccheaaDoor
open Go.RowKit Go.Shelf

attribute [local go_sem] Oper.semAt_some

theorem words_in (n : Nat) (s : ByteArray) (w : World) :
    CallsIn Fence.wide n Tryd.prog 17 #[.string s] w fun e w' => e = .returned (.func (.func 31) #[] #[.pointer (some ⟨w.heap.size, 0, none⟩)]) ∧ w' = w.alloc (.cells #[.string s] 9) := by
  refine callsIn_of_wp Tryd.func17 rfl trivial ?_ rfl
  simp only [Tryd.ntmps17, List.size_toArray, List.length_cons, List.length_nil, Nat.reduceAdd, Nat.reduceSub, Array.replicate_succ, Array.replicate_zero, List.push_toArray, List.append_toArray, List.nil_append, List.cons_append]
  gi_wp2
  go_ret
  exact ⟨rfl, rfl⟩

theorem results_words (tmps : Array Value) (w : World) (a2 a3 : Addr) (p : Option Addr) (l c : Nat) (z : Int) (hp : tmps[2]?.getD undef = .pointer (some a2)) (hq : tmps[3]?.getD undef = .pointer (some a3)) (h2 : w.cell? a2 = some (.slice p l c)) (h3 : w.cell? a3 = some (.int .i64 z)) :
    (results Tryd.f5 tmps).run Tryd.prog w = .ok (.tuple #[.slice p l c, .int .i64 z]) w := by
  have hr : Tryd.f5.results = #[.cell 2 22, .cell 3 25] := rfl
  simp only [results, hr]
  simp [Sem.run_bind, Result.andThen, hp, hq, asAddr, loadVar, Tryd.isAgg22, Tryd.isAgg25, load, Sem.run, h2, h3]

/-- What Words answers: the words and the error. -/
def wordsR (line : ByteArray) : Option (List (List Nat)) :=
  if line.size ≤ 1024 ∧ good line = true ∧ (tot line).1.length ≤ 32 ∧ (tot line).2 = 0 then some (tot line).1 else none

theorem Tryd.infoS : (Tryd.prog.info? 9).map (fun i => (i.zero, i.size, i.bytes)) = some (some (.string ⟨#[]⟩), 1, 16) := by kernel_rfl

theorem not_mine_cells (c : Array Value) (t : TypeId) (fz : Nat × Nat) (h1 : t ≠ 66) (h2 : t ≠ 5) : ¬ Mine (.cells c t fz) := by
  rintro (⟨_, _, h⟩ | ⟨_, _, h⟩ | ⟨_, _, h⟩)
  · injection h with _ h; exact h1 h
  · injection h with _ h; exact h2 h
  · cases h

end Go.Proofs.YtbacgkfmnccheaaDoor
