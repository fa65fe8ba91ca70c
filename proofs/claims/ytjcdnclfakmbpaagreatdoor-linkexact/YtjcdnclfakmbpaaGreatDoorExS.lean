import Derived.Test.YtjcdnclfakmbpaaGreatDoorExO
import Derived.Test.YtjcdnclfakmbpaaGreatDoorExP
import Derived.Test.YtjcdnclfakmbpaaGreatDoorExQ
namespace Go.Proofs.YtjcdnclfakmbpaaGreatDoor
open Go.RowKit
theorem Ws.below {w0 w w2 : World} {wb st : Nat} (h : Ws w0 w wb st) (hb : Below w.heap.size w w2) : Ws w0 w2 wb st := by
  obtain ⟨K, Y, A, B, es, xn, bn, h1, h2⟩ := h
  exact ⟨_, Y, A, B, es, xn, bn, h1.below hb (9, 9), h2⟩
theorem Ws.drewN {w0 w : World} {wb st : Nat} (h : Ws w0 w wb st) (q : Nat) : Ws w0 (w.drewN q) wb st := by
  obtain ⟨K, Y, A, B, es, xn, bn, h1, h2⟩ := h
  exact ⟨K, Y, A, B, es, xn, bn, h1.drewN q, h2⟩
theorem Ws.bel {w0 w : World} {wb st : Nat} (h : Ws w0 w wb st) : Below w0.heap.size w0 w := by
  obtain ⟨K, Y, A, B, es, xn, bn, h1, h2⟩ := h
  exact h1.bel
theorem bytes_lt {w : World} {sp : Option Addr} {xs : List Nat} (h : Bytes w sp xs) : ∀ q, sp = some q → xs ≠ [] → q.block < w.heap.size := fun q e hn => by
  rcases h.lie with r | ⟨g, o, e2, hg, -⟩
  · exact absurd r hn
  · rw [e] at e2; cases e2; exact hg
theorem sx_in {w0 w : World} {K : Knd} {sp : Option Addr} {xs : List Nat} (hb : Below w0.heap.size w0 w) (kz : ∀ x, x < w0.heap.size → K x = (0, 0)) (h : Bytes w0 sp xs) : Sx w K sp xs ∧ ∀ q, sp = some q → xs ≠ [] → q.block < w.heap.size ∧ K q.block = (0, 0) :=
  ⟨⟨h.below hb, fun q e hn => ⟨Nat.lt_of_lt_of_le (bytes_lt h q e hn) hb.size, Or.inl (kz _ (bytes_lt h q e hn))⟩⟩, fun q e hn => ⟨Nat.lt_of_lt_of_le (bytes_lt h q e hn) hb.size, kz _ (bytes_lt h q e hn)⟩⟩
theorem step_any (w0 w : World) (wb st : Nat) (h : Ws w0 w wb st) (hst : st ≤ 700) (kind on pick : Int) (bp fp : Option Addr) (nb bc nf fc mine yours seq ack olife : Nat) (f0 f1 : Int) (bo fo : List Nat) (hnb : bo.length = nb) (hlb : nb ≤ 140737488351232) (hx : Bytes w0 bp bo) (hnf : fo.length = nf) (hlf : nf ≤ 140737488351232) (hf : Bytes w0 fp fo) :
    Calls Tryz.prog 6 #[.pointer (some ⟨wb, 0, none⟩), .agg #[.int .i64 kind, .int .i64 on, .slice bp nb bc, .int .i64 f0, .int .i64 f1, .int .u64 (mine : Int), .int .u64 (yours : Int), .int .u64 (seq : Int), .int .u64 (ack : Int), .slice fp nf fc, .int .i64 pick, .int .u64 (olife : Int)]] w fun e w' => e = .returned (.bool true) ∧ Ws w0 w' wb (st + 1) := by
  obtain ⟨K, Y, A, B, es, xn, bn, hw, hd⟩ := h
  obtain ⟨hx1, hx2⟩ := sx_in hw.bel hw.kz hx
  obtain ⟨hf1, -⟩ := sx_in hw.bel hw.kz hf
  by_cases k1 : kind = 1
  · subst k1
    rcases and1 on with ho | ho
    · exact step_send0 w0 w K wb Y A B es xn bn st hw hd hst on pick bp fp nb bc nf fc mine yours seq ack olife f0 f1 ho bo hnb hlb hx1 hx2
    · exact step_send1 w0 w K wb Y A B es xn bn st hw hd hst on pick bp fp nb bc nf fc mine yours seq ack olife f0 f1 ho bo hnb hlb hx1 hx2
  by_cases k2 : kind = 2
  · subst k2
    rcases and1 on with ho | ho
    · exact step_owe0 w0 w K wb Y A B es xn bn st hw hd hst on pick bp fp nb bc nf fc mine yours seq ack olife f0 f1 ho
    · exact step_owe1 w0 w K wb Y A B es xn bn st hw hd hst on pick bp fp nb bc nf fc mine yours seq ack olife f0 f1 ho
  by_cases k3 : kind = 3
  · subst k3
    rcases and1 on with ho | ho
    · exact step_hear0 w0 w K wb Y A B es xn bn st hw hd hst on pick bp fp nb bc nf fc mine yours seq ack olife f0 f1 ho fo hnf hlf hf1
    · exact step_hear1 w0 w K wb Y A B es xn bn st hw hd hst on pick bp fp nb bc nf fc mine yours seq ack olife f0 f1 ho fo hnf hlf hf1
  by_cases k4 : kind = 4
  · subst k4
    rcases and1 on with ho | ho
    · exact step_taken0 w0 w K wb Y A B es xn bn st hw hd hst on pick bp fp nb bc nf fc mine yours seq ack olife f0 f1 ho
    · exact step_taken1 w0 w K wb Y A B es xn bn st hw hd hst on pick bp fp nb bc nf fc mine yours seq ack olife f0 f1 ho
  by_cases k5 : kind = 5
  · subst k5
    rcases and1 on with ho | ho
    · exact step_tick0 w0 w K wb Y A B es xn bn st hw hd hst on pick bp fp nb bc nf fc mine yours seq ack olife f0 f1 ho
    · exact step_tick1 w0 w K wb Y A B es xn bn st hw hd hst on pick bp fp nb bc nf fc mine yours seq ack olife f0 f1 ho
  by_cases k6 : kind = 6
  · subst k6
    rcases and1 on with ho | ho
    · exact step_new0 w0 w K wb Y A B es xn bn st hw hd hst on pick bp fp nb bc nf fc mine yours seq ack olife f0 f1 ho
    · exact step_new1 w0 w K wb Y A B es xn bn st hw hd hst on pick bp fp nb bc nf fc mine yours seq ack olife f0 f1 ho
  exact step_other w0 w K wb Y A B es xn bn st hw hd hst kind on pick bp fp nb bc nf fc mine yours seq ack olife f0 f1 k1 k2 k3 k4 k5 k6
theorem same_any (w0 w : World) (wb st : Nat) (h : Ws w0 w wb st) : Calls Tryz.prog 7 #[.pointer (some ⟨wb, 0, none⟩)] w fun e w' => e = .returned (.bool true) ∧ ∃ q, w' = w.drewN q := by
  obtain ⟨K, Y, A, B, es, xn, bn, h1, -⟩ := h
  exact sameW w0 w K wb Y A B es xn bn st h1
end Go.Proofs.YtjcdnclfakmbpaaGreatDoor
