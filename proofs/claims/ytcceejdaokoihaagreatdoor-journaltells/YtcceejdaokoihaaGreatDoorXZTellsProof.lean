import Derived.Test.YtcceejdaokoihaaGreatDoorXZd
set_option maxRecDepth 100000
namespace Go.Proofs.YtcceejdaokoihaaGreatDoor
open Go.RowKit Go.ChangeShapes Go.WideShapes Go.ChangeAt
theorem tells_all (W:World) (hT:C.Tab W) (r0 r1:Int) (sp:Option Addr) (m cap:Nat) (l:List Opj) (hm:l.length=m) (hml:m≤140737488355328) (hI:Opl W sp l) (hO:∀q∈l,OpjOk W q) :
  Calls Tryz.prog 5 #[.agg #[.int .i64 r0,.int .i64 r1,.slice sp m cap]] W fun e w'=>e=.returned (.bool true)∧Below W.heap.size W w':=by
 have hb:Below W.heap.size W (W.alloc (.cells #[.int .i64 r0,.int .i64 r1,.slice sp m cap] 25)):=(Below.refl _ _).alloc (Nat.le_refl _) _
 have HH:=hide (holds_any _ (hT.below hb hT.pos) r0 r1 sp m cap l hm hml (hI.below hb) (fun q hq=>(hO q hq).below hb) 4 4)
 have HB:=hide hb
 clear hb hT hm hI hO
 go_enter Tryz.func5,Tryz.ntmps5
 go_wp2_with fail
 refine HH.out.mono ?_
 rintro e w2 ⟨rfl,hb2⟩
 have HB2:Hid (Below W.heap.size W w2):=HB.out.trans (hb2.mono HB.out.size)
 clear hb2
 go_wp2
 go_ret
 exact⟨rfl,HB2.out⟩
theorem tells_lifted (os:Go.Os) (started:os.Started) (H:Type) (enc:TypeId × Value→H) :
  ReturnsInHanded {} Tryz.checked os 5 .any (fun w args=>(Rows.journalTellsSpec.pre enc Tryz.prog Tryz.f5 [] false w args∧laidMetH Tryz.prog Rows.journalTellsRow.laid w)∧sizedMet enc Tryz.prog Tryz.f5 (OpenSpec.ofChange Rows.journalTellsSpec) false w args)
   (Rows.journalTellsSpec.post enc Tryz.prog Tryz.f5 false true false false):=by
 refine returnsInHanded_of_change_and (C:=Tryz.checked) (X:=fun w _=>laidMetH Tryz.prog Rows.journalTellsRow.laid w) (fun _ _ _ hh h=>h.of_heap hh) Tryz.own started (by kernel_rfl) Tryz.func5
  (ChangeSpec.witness_shaped (enc:=enc) (C:=Tryz.checked) (os:=os) (X:=fun w _=>laidMetH Tryz.prog Rows.journalTellsRow.laid w) false (World.doorLaid Tryz.prog 400 os) #[.agg #[.int .i64 0,.int .i64 0,.slice none 0 0]] 8 rfl (World.shaped_of_RefB (by kernel_rfl) (by kernel_rfl)) (by kernel_rfl) (by kernel_rfl) (by kernel_rfl) (door_met os _)) ?_
 intro W base args ds gs before hval0 hW _ hsz0 hL _
 have hval:∀(j:Nat) t v,Tryz.f5.params[j]?=some t→args[j]?=some v→Value.okWide Tryz.prog W .any base t v:=hval0
 have hsz:(DataW.weightsEach Tryz.prog (Tryz.f5.params.toList++Rows.journalTellsSpec.plain.varTypes Tryz.prog) (ds++gs)).all (·≤reachBytes)=true:=hsz0
 have hW':=hW
 obtain⟨p,q,hA0,hV,rfl,hfz,hnd⟩:=hW
 have hA:DataW.TrodAll enc Tryz.prog W 0 (fun _=>true) true Tryz.f5.params.toList args.toList ds p:=hA0
 rw[Tryz.params5]at hA hval hsz
 obtain⟨v0,d0,rfl,rfl,h0⟩:=trodAll_one hA
 obtain⟨rfl,rfl⟩:=trodVars_none hV
 have hw:∀n∈d0.weights Tryz.prog 25,n≤reachBytes:=fun n hn=>by
  have:=List.all_eq_true.1 hsz n (DataW.weights_mem_each (j:=0) (t:=25) rfl rfl n hn)
  simpa using this
 obtain⟨z0,z1,sp,l,c,ops,rfl,t1,t2,t3,t4⟩:=script_open (hval 0 25 v0 rfl rfl) h0 hw
 clear hA0 hval0 hsz0 hsz
 simp only[List.append_nil]at hW'
 refine(tells_all W (tab_of_laid hL) z0 z1 sp l c ops t1 (by omega) t3 t4).mono fun e W' ⟨he,hb⟩=>?_
 subst he
 have hlt:∀x∈p,x.block<W.heap.size:=fun x hx=>by simpa using hW'.lt x hx
 exact⟨_,rfl,_,_,_,[],p,[],hW',trodAll_mk1 (shut_bool Tryz.underlying4 true),trodAll_mk1 (Below.trod Tryz.laidOut (by kernel_rfl) (of_decide_eq_true (by kernel_rfl)) h0 hb hlt),rfl,hb.frame _,fun h=>by cases h⟩
theorem tells_row:Rows.JournalTellsSaid :=
 OpenClaim.holds_of_wide 5 Tryz.f5 rfl rfl rfl rfl rfl rfl rfl ⟨rfl,rfl,rfl,rfl,rfl⟩ rfl rfl rfl rfl rfl (by kernel_rfl) Tryz.func5 (by kernel_rfl)
  (of_decide_eq_true (by kernel_rfl)) (by unfold Func.isWrapper;first | (rw[if_pos (by decide +kernel)];kernel_rfl) | (rw[if_neg (by decide +kernel)];exact⟨rfl,rfl⟩))
  (fun os started H enc _=>tells_lifted os started H enc)
theorem tells_holds:Rows.JournalTellsCardSaid :=
 Claim7.holds_tied_plain_at .later [] [.data] true (true, "402eef0e5e1abfaa503ff1092bed9f9612e5009f55a45cb23d6573df3dacaf98") true
  tells_row (fun _ h=>by cases h) (by kernel_rfl) (fun _ h=>by cases h) journalTells_row_tie rfl ⟨rfl,rfl⟩ (by kernel_rfl) rfl
  (fun f fn hf hfn=>by
   obtain rfl : f = 5 := Option.some.inj ((show Tryz.prog.funcNamed "till/tilllaw5.JournalTells" = some 5 by kernel_rfl).symm.trans hf) |>.symm
   obtain rfl:fn=Tryz.f5:=(Option.some.inj (Tryz.func5.symm.trans hfn)).symm
   exact⟨by kernel_rfl,fun j t ht=>by
    rw[Tryz.params5]at ht
    have h3:t=25:=by
     rcases j with _ | j
     ·simpa using ht.symm
     ·simp at ht
    subst h3
    exact(show Tryz.prog.wantsStandIn 25=false by kernel_rfl)⟩)
  (by kernel_rfl)
#print axioms tells_holds
end Go.Proofs.YtcceejdaokoihaaGreatDoor
