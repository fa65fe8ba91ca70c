import Derived.Test.YtcceejdaokoihaaGreatDoorJRepl
set_option maxRecDepth 100000
namespace Go.Proofs.YtcceejdaokoihaaGreatDoor
open Go.RowKit Go.Maps
def chkR (S:St) (J:Jr) (ps:List (List Nat)):Nat × St × Jr:=keepR S J ps (J.reps S)
theorem reps_fit (J:Jr) (S:St) (r:List Nat) (h1:∀y∈r,y<256) (h2:r.length≤4194304):(J.reps S r).length≤6∧∀s∈J.reps S r,s.fits:=by
 unfold Jr.reps
 refine⟨?_,fun s hs=>?_⟩
 ·split <;> simp
 ·rcases List.mem_append.1 hs with h | h
  ·split at h
   ·simp at h
    subst h
    exact True.intro
   ·cases h
  ·simp at h
   rcases h with rfl | rfl | rfl | rfl | rfl
   ·exact⟨h1,h2⟩
   ·exact True.intro
   ·exact True.intro
   ·exact True.intro
   ·exact True.intro
set_option maxHeartbeats 400000 in
theorem Checkpoint_any (w:World) (K:Knd) (od o d jb:Nat) (hne:o≠od) (S:St) (J:Jr) (hd:Dk w K od d S) (hv:Inv S) (k:Nat) (hz:Sz S k) (hk:k+41943050≤549755813888) (hj:Jk w K o d jb J)
  (hnm:J.second.length≤64) (hlen:J.recs.length≤1099511627776) (hlast:J.last<18446744073709551615) (pp:Option Addr) (kp cp:Nat) (ps:List (List Nat)) (hps:ps.length=kp) (hkp:kp≤140737488355328) (hP:Pts w pp ps) (hT:C.Tab w) :
  Calls Tryz.prog 26 #[.pointer (some ⟨jb,0,none⟩),.slice pp kp cp] w (Kept5 w K od o d jb (chkR S J ps)):=by
 have hmf:∀(fn:Fn) (first cap:Array Value) (w:World),(Instr.makeFunc fn first cap).run Tryz.prog w=.ok (.func fn first cap) w:=fun _ _ _ _=>rfl
 have HC:=hide (keep_any w K od o d jb hne S J hd hv k hz hk hj hlen hlast pp kp cp ps hps hkp hP hT 62 (J.reps S) (reps_fit J S) entr (fun w' K' g n r h1 h2 h3 h4 h5 h6 h7=>replacing_any w' K' od o d jb S h2 hv J h1 g 0 n n r h3 h4 h5 _ _ h6 h7 hnm))
 clear hd hv hz hj hP hT
 go_enter Tryz.func26,Tryz.ntmps26
 go_wp2_with fail
 refine HC.out.mono ?_
 rintro e w1 ⟨K1,rfl,hd1,hj1,hk1⟩
 have H:Hid (Kept5 w K od o d jb (chkR S J ps) (.returned (.int .i64 ((keepR S J ps (J.reps S)).1:Int))) w1):=⟨K1,rfl,hd1,hj1,hk1⟩
 clear hd1 hj1 hk1 HC
 generalize (keepR S J ps (J.reps S)).1=er at *
 go_wp2
 go_ret
 exact H.out
end Go.Proofs.YtcceejdaokoihaaGreatDoor
