import Derived.Test.YteoahlieielcdaaGreatX7
import Derived.Test.YteoahlieielcdaaGreatJ12
set_option linter.all false
set_option maxHeartbeats 4000000
set_option maxRecDepth 100000
namespace Go.Proofs.YteoahlieielcdaaGreat
open Go.Proofs.Tryz
variable{b c:ak}{k:List Item}{cs:List ak}{ops:Array Oper}{i n r n1:Nat}{o:Oper}{x:aD}{f:ay}{cap:Array aj}{O O':aI}{w w':af}{key val:ah}
section
open Go Go.Conc Go.ConcN Go.RowKit Go.Conc.Lib Go.MuLone
open Go.ConcR (KK wgBlock WgAt stA smA rd wr mk Payload Aside2 DC0)
section
variable {P:aB}{main:Bool}{J:Jm}{R:uA}{D:uB}{fn:ay}{Q:ep}{O:aI}{a:Act}{w:af}{n:Nat}
def lK(P:aB)(fn:Fn)(first cap:Array aj)(w:af):(Instr.makeFunc fn first cap).run P w=.ok (.func fn first cap) w:=rfl
def nh(P:aB)(fn:Fn)(first cap:Array aj)(w:af)(es:Array aC):(Instr.makeFunc fn first cap).events P w es=es:=rfl
def B3{rest:List Nat}{ats:Array az}(ho:ops[i]?=some o)(hw:Region.wanted o (yielded ops a.tmps)=true)(hk:b.kind≠.early)
 (hop:o.op=.defer {callee:=.value x,args:=#[],argTypes:=ats}) (hx:a.eval x=.func (.func f) #[] cap):
 stepG P main (G (b.at a (.inRegion ops (i :: rest):: k)) cs) w=.go (G (b.at (Act.put ⟨a.tmps,{target:=.fn (.func f) cap,args:=#[]}:: a.defers⟩ o.dst undef) (.inRegion ops rest :: k)) cs) w #[]:=by
 have hr:(execOp a.eval o).run P w=.ok (.defer {target:=.fn (.func f) cap,args:=#[]}) w:=by unfold execOp;simp[hop,resolve,Deferred.ofValue,hx]
 have he:(execOp a.eval o).events P w #[]=#[]:=by unfold execOp;simp[hop,resolve,Deferred.ofValue,hx]
 have jh:(b.at ⟨a.tmps,{target:=.fn (.func f) cap,args:=#[]}:: a.defers⟩ (.inRegion ops (i :: rest):: k)).finish undef=b.at (Act.put ⟨a.tmps,{target:=.fn (.func f) cap,args:=#[]}:: a.defers⟩ o.dst undef) (.inRegion ops rest :: k):=by rw[Frame.finish_at,ho];rfl
 have hk':(b.kind == CallKind.early)=false:=by simpa using hk
 rw[stepG_oper ho hw,<-jh];simp[stepG.apply,hr,he,G,Frame.at,hk',GStep.after,seen_none]
def Ed(T:bY R D){rest:List Nat}{ats:Array az}(ho:ops[i]?=some o)(hw:Region.wanted o (yielded ops a.tmps)=true)
 (hop:o.op=.defer {callee:=.value x,args:=#[],argTypes:=ats}) (hx:a.eval x=.func (.func f) #[] cap) (h:bN P main J R D fn ops rest n Q O (Act.put ⟨a.tmps,{target:=.fn (.func f) cap,args:=#[]}:: a.defers⟩ o.dst undef) w):bN P main J R D fn ops (i :: rest) (n+1) Q O a w:=
 fun b k cs Stop m hb hk hc=>cD.quiet T rfl (fun _=>B3 ho hw hk hop hx) (h b k cs Stop m hb hk hc)
def zK{rest:List Nat}{ats:Array az}(ho:ops[i]?=some o)(hw:Region.wanted o (yielded ops a.tmps)=true)
 (hop:o.op=.call {callee:=.builtin .recover,args:=#[],argTypes:=ats}) (hc:c.mode=.returning):
 stepG P main (G ((baseD f).at a (.inRegion ops (i :: rest):: k)) (c :: cs)) w=.go (G ((baseD f).at (a.put o.dst .nilIface) (.inRegion ops rest :: k)) (c :: cs)) w #[]:=by
 have hr:(execOp a.eval o).run P w=.ok .recover w:=by unfold execOp;simp[hop,go_sem]
 have he:(execOp a.eval o).events P w #[]=#[]:=by unfold execOp;simp[hop,go_sem]
 have jh:((baseD f).at a (.inRegion ops (i :: rest):: k)).finish .nilIface=(baseD f).at (a.put o.dst .nilIface) (.inRegion ops rest :: k):=by rw[Frame.finish_at,ho];rfl
 rw[stepG_oper ho hw,<-jh];simp[stepG.apply,hr,he,G,Frame.at,GStep.after,seen_none,baseD,tryRecover,hc]
end
noncomputable def B4:ak:={(default:ak)with fn:=prog.funcs.size,mode:=.panicking [goexitEntry]}
def xB(bw bf:Nat):Deferred:={target:=.fn (.func 118) #[.pointer (some ⟨bw,0,none⟩),.pointer (some ⟨bf,0,none⟩)],args:=#[]}
noncomputable def wM:Code:=f118.body.getD .skip
noncomputable def B5:Code:=f119.body.getD .skip
def Gx(bw bf:Nat)(w:af):stepG prog false (born prog (xB bw bf)) w=.go (G ((baseD 118).at ⟨#[.pointer (some ⟨bw,0,none⟩),.pointer (some ⟨bf,0,none⟩),undef,undef,undef], []⟩ [.code wM]) [B4]) w #[]:=by simp[born,xB,stepG,unwind,callDeferred,invoke,callFunc,func118,f118,seen,GStep.after,G,Frame.enter,Frame.at,baseD,B4,wM];rfl
def WN(T:Array aj):QuitsD prog 2 0 (G {(baseD 118).at ⟨T, []⟩ []with mode:=.returning} [B4]):=by
 refine QuitsD.ctl (g':=G B4 []) rfl (fun w=>?_) ?_
 ·simp[G,stepG,unwind,doReturn,results,Frame.at,baseD,B4,func118,f118,seen,GStep.after,goexitEntry]
 refine QuitsD.ctl (g':={G B4 []with status:=.finished}) rfl (fun w=>?_) ⟨rfl,rfl⟩;simp[G,stepG,unwind,B4,goexitEntry,Frame.catches];rfl
variable {J:Jm}{L:dY}
@[reducible] def Om:Payload:=⟨215⟩
def UX(Wg bw ab i:Nat)(key:ah)(m:Int)(val:ah)(O:aI)(g:au)(w:af):Prop:=
 letI:=Om
 O.pos=.lk .out 0/\(w.cell? ⟨ab,i*3,none⟩=some (.string key)/\w.cell? ⟨ab,i*3+1,none⟩=some (.int .i64 m)/\w.cell? ⟨ab,i*3+2,none⟩=some (.string val))/\
   ∃r,Goes prog false (RW 155 Wg bw 1 0 0) (DWs Wg (fun _ _=>False) (fun _ _=>False) bw 1 1) (AtR0 prog 155 Wg bw 1 0 1 (.pointer (some ⟨Wg,0,none⟩))) r g w
def WO(nl:Nat):∃n,∀(bw bf b0 b1 b2 b3 b4 qb pb ab kb:Nat) (f:Lit->Option aj) (vl:Int->List KV) (key:ah) (ms:List Int) (cb:Option aA) (gE N iP i:Nat) (O:aI) (w:af),L.N<=w.heap.size->kH L pb kb f vl w->i<N->N<=8->¬L.Fx ab->L.Wg≠ab->(valueOf (vl (eP vl key ms)) key).size<=1000->Hid (∀j,j<3->L.Mn ⟨ab,i*3+j,none⟩/\(∃v,w.cell? ⟨ab,i*3+j,none⟩=some v)/\w.frozen? ⟨ab,i*3+j,none⟩=false)->
 Jn L b0 b1 b2 b3 b4 qb pb ab key ms cb gE N iP i w->
 ms.length<=8->(∀m∈ms,0<=m/\m<=1000)->Hid (∀(k:Nat) (m:Int),ms[k]?=some m->∃g,L.Fx g/\cb=some ⟨g,0,none⟩/\w.cell? ⟨g,k,none⟩=some (.int .i64 m))->
 Ee false J L pb nl->O.pos=.lk .uy 1->¬O.own pb->
 L.Fx bf->w.cell? ⟨bf,0,none⟩=some (.func (.func 80) #[] #[.pointer (some ⟨b0,0,none⟩),.pointer (some ⟨b1,0,none⟩),.pointer (some ⟨b2,0,none⟩),.pointer (some ⟨b3,0,none⟩),.pointer (some ⟨b4,0,none⟩)])->
 cR prog false J (RX L) (DX L) 118 wM n (fun O' e a' w'=>e=.normal/\a'.defers= [{target:=.fn (.func 119) #[.pointer (some ⟨bw,0,none⟩)],args:=#[]}]/\O'.pos=.lk .out 0/\iS L w w'/\w'.cell? ⟨ab,i*3,none⟩=some (.string key)/\w'.cell? ⟨ab,i*3+1,none⟩=some (.int .i64 (eP vl key ms))/\w'.cell? ⟨ab,i*3+2,none⟩=some (.string (valueOf (vl (eP vl key ms)) key))) O ⟨#[.pointer (some ⟨bw,0,none⟩),.pointer (some ⟨bf,0,none⟩),undef,undef,undef], []⟩ w:=by
 obtain⟨nw,hwk⟩:=On (main:=false) (J:=J) (L:=L) nl;co_apply Exists.intro;intro bw bf b0 b1 b2 b3 b4 qb pb ab kb f vl key ms cb gE N iP i O w hN hP FY WQ hnf uh hvs hmn hB h8 uj hcell hlk hpos hno WR cf;have hF:bG L O w O w:=bG.refl hN;obtain⟨W,hW⟩:∃W,W=w:=⟨_,rfl⟩
 obtain⟨O1,hO⟩:∃O1,O1=O:=⟨_,rfl⟩
 rw[<-hW,<-hO]at hF⊢;rw[<-hW]at hP hcell hB hN hmn cf;rw[<-hO]at hpos hno;clear hW hO;have hm1:=lK prog;have hm2:=nh prog;dsimp only[wM,f118,Option.getD_some];co_apply (jy);(co_apply aN rfl (by rfl);intro _ hR K hK;replace hF:=bG.rely hF hR;clear hR;(skip);go_simp;refine hK _ ⟨?_,?_⟩;(focus(rw[listed_nil (by simp[go_sem,hm2])];exact DX.idle _ _));clear hK K;try walk_nrm);co_apply Ed (aF L) rfl (by rfl) rfl (by rfl);walk_nrm;co_apply (jy);(co_apply aN rfl (by rfl);intro _ hR K hK;replace hF:=bG.rely hF hR;clear hR;(have hc:=hF.aZ cf WR);go_simp;refine hK _ ⟨?_,?_⟩;(focus(refine DX.still _ _ (cC (a:=⟨bf,0,none⟩) (.inl WR) fun e he=>?_);have hm:=mem_listed he;simp[go_sem,hc]at hm;exact hm));clear hK K;try walk_nrm);clear hc;have hpl:pb<W.heap.size:=World.block_lt_of_cell? W _ hP.cell;co_apply Gy (aF L) rfl (by rfl) rfl (by rfl) (by
  walk_nrm;exact hwk b0 b1 b2 b3 b4 qb pb ab kb f vl key ms cb gE N iP i _ _ hF.top (hP.wN hF) FY WQ hnf uh hvs (fun j hj=>⟨(hmn.out j hj).1,by obtain⟨v,hv⟩:=(hmn.out j hj).2.1;exact⟨v,((hF.rel.mn _ (hmn.out j hj).1).1).trans hv⟩,((hF.rel.mn _ (hmn.out j hj).1).2).trans (hmn.out j hj).2.2⟩)
   ⟨hB.f0,hB.f1,hB.f2,hB.f3,hB.f4,hB.fq,hF.aZ hB.c0 hB.f0,hF.aZ hB.c1 hB.f1,hF.aZ hB.c2 hB.f2,hF.aZ hB.c3 hB.f3,hF.aZ hB.c4 hB.f4,hF.aZ hB.cq hB.fq⟩ h8 uj (fun k m hk=>by obtain⟨g,hg,e,hc⟩:=hcell.out k m hk;exact⟨g,hg,e,hF.aZ hc hg⟩) hlk (hF.gh.1.trans hpos) (hF.nj hno hpl))
 rintro O2 x W2 ⟨⟨SH,gI⟩,rfl,q1,q2,q3⟩;walk_nrm;have Jo:iS L W W2:=⟨Nat.le_trans hF.rel.le gI.le,fun i hi hx=>(gI.blk i (Nat.lt_of_lt_of_le hi hF.rel.le) hx).trans (hF.rel.blk i hi (.inr hx)),gI.live ∘ hF.rel.live⟩
 co_apply (jy);exact⟨by trivial,by trivial,SH,Jo,q1,q2,q3⟩
def cD.op{P:aB}{main:Bool}{J:Jm}{R:uA}{D:uB}{Stop:xC}{a:Act}{rest:List Nat}
 (ho:ops[i]?=some o) (hw:Region.wanted o (yielded ops a.tmps)=true) (hk:b.kind≠.early)
 (h:∀w₁,R O w w₁->∃v,(execOp a.eval o).run P w₁=.ok (.value v) w₁/\D O w₁ w₁ (listed P b.fn a o w₁)/\cD P main J R D Stop n O (G (b.at (a.put o.dst v) (.inRegion ops rest :: k)) cs) w₁):
 cD P main J R D Stop (n+1) O (G (b.at a (.inRegion ops (i :: rest):: k)) cs) w:=
 cD.step rfl fun w₁ h₁=>by obtain⟨v,h1,h2,h3⟩:=h w₁ h₁;rw[stepG_value ho hw hk h1];exact⟨h2,by rw[O.dz rfl];exact h3⟩
def SI(d:Nat)(w:af)(es:Array aC):(Op.equalIn (d+1) 20 .nilIface .nilIface).events prog w es=es/\(Op.equalIn (d+1) 20 .nilIface .nilIface).run prog w=.ok true w:=by
 have hu:(underlying 20).run prog w=.ok (.interface #[]) w:=Tryz.runUnderlying20 w;have he:(underlying 20).events prog w es=es:=by simp[go_sem]
 rw[Op.equalIn];simp[hu,he]
def Z5(w:af):(binOp BinOp.neq 20 Value.nilIface Value.nilIface).events prog w #[]=#[]:=by have e:binOp BinOp.neq 20 Value.nilIface Value.nilIface=(Op.equalIn (9999+1) 20 .nilIface .nilIface >>= fun b=>pure (.bool (!b))):=rfl;rw[e];simp[SI 9999 w]
def Z6{Wg bw ab:Nat}{m:Int}{T:Array aj}(hN:L.N<=w.heap.size)(hpos:O.pos=.lk .out 0)(hwg:L.Wg=Wg)(htw:L.tw=155)(YO:L.Fx bw)(cw:w.cell? ⟨bw,0,none⟩=some (.pointer (some ⟨Wg,0,none⟩)))(hl:Dt L.tw L.Wg w)
 (hmn:∀j,j<3->L.Mn ⟨ab,i*3+j,none⟩) (q1:w.cell? ⟨ab,i*3,none⟩=some (.string key)) (q2:w.cell? ⟨ab,i*3+1,none⟩=some (.int .i64 m)) (q3:w.cell? ⟨ab,i*3+2,none⟩=some (.string val)):
 cD prog false J (RX L) (DX L) (UX Wg bw ab i key m val) 20 O (G ((baseD 119).at ⟨#[.pointer (some ⟨bw,0,none⟩),undef,undef,undef,undef,undef,undef,undef], []⟩ [.code B5]) [{(baseD 118).at ⟨T, []⟩ []with mode:=.returning},B4]) w:=by
 have T0:=aF L;dsimp only[B5,f119,Option.getD_some];refine cD.quiet (n:=19) T0 rfl (fun _=>stepG_seq) ?_;refine cD.quiet (n:=18) T0 rfl (fun _=>stepG_seq) ?_;refine cD.quiet (n:=17) T0 rfl (fun _=>stepG_region) ?_;simp only[List.size_toArray,List.length_cons,List.length_nil,Nat.reduceAdd,Nat.zero_add,List.range,List.range.loop];refine cD.quiet (n:=16) T0 rfl (fun _=>zK rfl (by rfl) rfl rfl) ?_;walk_nrm;have hF:bG L O w O w:=bG.refl hN;obtain⟨W,hW⟩:∃W,W=w:=⟨_,rfl⟩
 rw[<-hW]at hF⊢;rw[<-hW]at cw hl q1 q2 q3;clear hW hN;refine cD.op (n:=15) rfl (by rfl) (by simp[baseD]) fun _ hR=>?_;replace hF:=hF.rely hR;clear hR;refine⟨_,run_eq_of (by intro K hK;go_simp;exact hK),by(rw[listed_nil (by simp[go_sem])];exact DX.idle _ _),?_⟩;walk_nrm;refine cD.quiet (n:=14) T0 rfl (fun _=>stepG_region_end) ?_;refine cD.quiet (n:=13) T0 rfl (fun _=>stepG_seq) ?_;refine cD.quiet (n:=12) T0 rfl (fun _=>stepG_region) ?_;simp only[List.size_toArray,List.length_cons,List.length_nil,Nat.reduceAdd,Nat.zero_add,List.range,List.range.loop];refine cD.op (n:=11) rfl (by rfl) (by simp[baseD]) fun _ hR=>?_;replace hF:=hF.rely hR;clear hR;refine⟨_,run_eq_of (by intro K hK;go_simp;exact hK),by(rw[listed_nil (by simp[go_sem])];exact DX.idle _ _),?_⟩;walk_nrm;refine cD.op (n:=10) rfl (by rfl) (by simp[baseD]) fun _ hR=>?_;replace hF:=hF.rely hR;clear hR;refine⟨_,run_eq_of (by intro K hK;go_simp;exact hK),by(rw[listed_nil (by simp[go_sem,Z5])];exact DX.idle _ _),?_⟩;walk_nrm;refine cD.quiet (n:=9) T0 rfl (fun _=>stepG_region_end) ?_;refine cD.quiet (n:=8) T0 rfl (fun _=>stepG_cond (t:=false) rfl) ?_;simp only[Bool.false_eq_true,if_false];refine cD.quiet (n:=7) T0 rfl (fun _=>stepG_skip) ?_;refine cD.quiet (n:=6) T0 rfl (fun _=>stepG_region) ?_;simp only[List.size_toArray,List.length_cons,List.length_nil,Nat.reduceAdd,Nat.zero_add,List.range,List.range.loop];refine cD.op (n:=5) rfl (by rfl) (by simp[baseD]) fun _ hR=>?_;replace hF:=hF.rely hR;clear hR;have hc:=hF.aZ cw YO;refine⟨_,run_eq_of (by intro K hK;go_simp;exact hK),by(refine DX.still _ _ (cC (a:=⟨bw,0,none⟩) (.inl YO) fun e he=>?_);have hm:=mem_listed he;simp[go_sem,hc]at hm;exact hm),?_⟩;walk_nrm;clear hc;refine cD.stop fun W1 hR=>?_;replace hF:=hF.rely hR;letI:=Om;refine⟨hpos,⟨((hF.rel.mn _ (hmn 0 (by omega))).1).trans q1,((hF.rel.mn _ (hmn 1 (by omega))).1).trans q2,((hF.rel.mn _ (hmn 2 (by omega))).1).trans q3⟩,24,?_⟩;have UE:=hF.rel.live hl;rw[hwg,htw]at UE;refine KF (L:=Tryz.Oq) (Wg:=Wg) (C:=bw) (n:=1) (Low:=0) (k:=1) Tryz.sQ rfl (by rfl) (by simp[baseD]) rfl (by first|(walk_nrm;done)|simp[Act.eval]) (qt:=5) ?_ W1 ⟨UE,hF.aZ cw YO⟩;walk_nrm;refine QuitsD.ctl rfl (fun _=>stepG_region_end) ?_;refine QuitsD.ctl rfl (fun _=>stepG_end) ?_;exact QuitsD.leaveD rfl rfl func119 rfl rfl (WN T)
def Z7(nl:Nat):∃n,∀(Wg bw bf b0 b1 b2 b3 b4 qb pb ab kb:Nat) (f:Lit->Option aj) (vl:Int->List KV) (key:ah) (ms:List Int) (cb:Option aA) (gE N iP i:Nat) (O:aI) (w:af),L.N<=w.heap.size->kH L pb kb f vl w->i<N->N<=8->¬L.Fx ab->L.Wg≠ab->(valueOf (vl (eP vl key ms)) key).size<=1000->Hid (∀j,j<3->L.Mn ⟨ab,i*3+j,none⟩/\(∃v,w.cell? ⟨ab,i*3+j,none⟩=some v)/\w.frozen? ⟨ab,i*3+j,none⟩=false)->
 Jn L b0 b1 b2 b3 b4 qb pb ab key ms cb gE N iP i w->
 ms.length<=8->(∀m∈ms,0<=m/\m<=1000)->Hid (∀(k:Nat) (m:Int),ms[k]?=some m->∃g,L.Fx g/\cb=some ⟨g,0,none⟩/\w.cell? ⟨g,k,none⟩=some (.int .i64 m))->
 Ee false J L pb nl->O.pos=.lk .uy 1->¬O.own pb->
 L.Fx bf->w.cell? ⟨bf,0,none⟩=some (.func (.func 80) #[] #[.pointer (some ⟨b0,0,none⟩),.pointer (some ⟨b1,0,none⟩),.pointer (some ⟨b2,0,none⟩),.pointer (some ⟨b3,0,none⟩),.pointer (some ⟨b4,0,none⟩)])->
 L.Wg=Wg->L.tw=155->L.Fx bw->w.cell? ⟨bw,0,none⟩=some (.pointer (some ⟨Wg,0,none⟩))->Dt L.tw L.Wg w->
 cD prog false J (RX L) (DX L) (UX Wg bw ab i key (eP vl key ms) (valueOf (vl (eP vl key ms)) key)) n O (born prog (xB bw bf)) w:=by obtain⟨n,h⟩:=WO (J:=J) (L:=L) nl;refine⟨22+n+1,fun Wg bw bf b0 b1 b2 b3 b4 qb pb ab kb f vl key ms cb gE N iP i O w hN hP FY WQ hnf uh hvs hmn hB h8 uj hcell hlk hpos hno WR cf hwg htw YO cw hl=>?_⟩;have T0:=aF L;refine cD.quiet T0 rfl (fun w₁=>Gx bw bf w₁) ?_;refine h bw bf b0 b1 b2 b3 b4 qb pb ab kb f vl key ms cb gE N iP i O w hN hP FY WQ hnf uh hvs hmn hB h8 uj hcell hlk hpos hno WR cf (baseD 118) [] [B4] _ (fun _=>22) rfl (by simp[baseD]) fun O' e a' w' q=>?_;obtain⟨rfl,hd,hp,hS,q1,q2,q3⟩:=q;refine cD.quiet (n:=21) T0 rfl (fun _=>stepG_end) ?_;refine cD.quiet (n:=20) T0 rfl (fun _=>nX (b:=baseD 118) (todo:= []) hd rfl func119 (by rfl) rfl) ?_;have:=Z6 (J:=J) (T:=a'.tmps) (Nat.le_trans hN hS.le) hp hwg htw YO (hS.aZ cw YO) (hS.live hl) (fun j hj=>(hmn.out j hj).1) q1 q2 q3;simpa[B5,ntmps119,f119,Array.replicate_succ]using this
end
section
open Go Go.Conc Go.ConcM Go.RowKit Go.MuLone
section
variable {P:aB}{L:dY}{bO:Nat->au->af->(Nat->Prop)->(Nat->Prop)->Prop}{fn:ay}{Q:ep}{O O0:aI}{a:Act}{w w0:af}{n:Nat}{ops:Array Oper}{i:Nat}{rest:List Nat}{o:Oper}
def qn.alloc(h:qn L O0 w0 O w)(b:Obj):qn L O0 w0 (O.grow w (w.alloc b)) (w.alloc b):=⟨h.base,fun i hi=>.inl (h.own i hi),h.rel.trans (RX.alloc _ h.top b),fun i hi=>hi.elim (h.new i) fun x=>.inr (Nat.le_trans h.rel.le x.1)⟩
def dM.alloc{k:Nat}{c:Ct}(h:dM L O0 w0 k c O w)(b:Obj):dM L O0 w0 k c (O.grow w (w.alloc b)) (w.alloc b):=
 ⟨h.fr.alloc b,h.ok,h.pos,fun x=>x.elim h.no fun y=>by have:=h.ok.lo;have:=h.fr.top;omega,h.fu,(RX.alloc (L:=L) O h.fr.top b).live h.live⟩
def OB.Rk{ob:Obj}(h:OB r ob O w)(x:qn L O w O' w'):OB r ob O' w':=⟨x.own _ h.own,(x.rel.blk r h.lt (.inl h.own)).trans h.heap⟩
def GA(hp:O.pos=.mn (.go r)){ats:Array az}(ho:ops[i]?=some o)(hw:Region.wanted o (yielded ops a.tmps)=true)(hop:o.op=.go {callee:=.value x,args:=#[],argTypes:=ats})(hx:a.eval x=.func (.func f) #[] cap)
 (k1:∀w₁,RX L O w w₁->∃gy,bO r (born P {target:=.fn (.func f) cap,args:=#[]}) w₁ O.own gy/\bN P true (iG P L.tw L.Wg bO) (RX L) (DX L) fn ops rest n1 Q (O.jump gy (.mn (.sp (r-1)))) (a.put o.dst undef) w₁):
 bN P true (iG P L.tw L.Wg bO) (RX L) (DX L) fn ops (i :: rest) n Q O a w:=by
 refine pV fun b k cs hb hk w₁ h₁ c x ru _ _ _ _=>?_;rw[hp]at ru;cases ru;refine⟨by simp,fun r' hr=>?_,by simp,by simp[oM]⟩;cases hr;have hr:(execOp a.eval o).run P w₁=.ok (.spawn {target:=.fn (.func f) cap,args:=#[]}) w₁:=by unfold execOp;simp[hop,resolve,Deferred.ofValue,hx]
 have he:(execOp a.eval o).events P w₁ #[]=#[]:=by unfold execOp;simp[hop,resolve,Deferred.ofValue,hx]
 obtain⟨gy,q1,q2⟩:=k1 w₁ h₁;have hst:=stepG_spawn (main:=true) (b:=b) (k:=k) (cs:=cs) (rest:=rest) ho hw hk hr rfl;have hl:listed P b.fn a o w₁=#[]:=listed_nil he;rw[hl]at hst;exact⟨_,_,gy,hst,rfl,q1,rest,_,n1,rfl,q2⟩
end
end
section
open Go Go.Conc Go.ConcM Go.RowKit Go.MuLone
variable {L:dY}{bO:Nat->au->af->(Nat->Prop)->(Nat->Prop)->Prop}
def aI.keep(O:aI)(Kp:Nat->Prop):aI:=⟨Kp,O.pos,O.fu⟩
def dM.give{O0:aI}{w0:af}{k:Nat}{c c':Ct}{Kp:Nat->Prop}(h:dM L O0 w0 k c O w)(hk:∀i,Kp i->O0.own i):dM L (O0.keep Kp) w0 k c' (O.jump Kp (.mn c')) w:=
 ⟨⟨h.fr.base,fun _ x=>x,h.fr.rel.anti hk,fun _ x=>.inl x⟩,h.ok,rfl,fun x=>h.no (h.fr.own _ (hk _ x)),Nat.le_trans (Nat.sub_le _ _) h.fu,h.live⟩
def ae8:∃n,∀(ff:Fn) (cap:Array aj) (O1:aI) (W:af) (k r:Nat) (Kp:Nat->Prop) (O:aI) (w:af),1<=r->dM L O1 W k (.sp r) O w->(∀i,Kp i->O1.own i)->
 (∀(O2:aI) (w2:af) (bw bf:Nat),dM L O1 W k (.go r) O2 w2->W.heap.size<=bw->W.heap.size<=bf->bw≠bf->OB bw (.cells #[.pointer (some ⟨L.Wg,0,none⟩)] 215) O2 w2->OB bf (.cells #[.func ff #[] cap] 1) O2 w2->bO r (born prog (xB bw bf)) w2 O2.own Kp)->
 bE prog true (iG prog L.tw L.Wg bO) (RX L) (DX L) 79 #[.pointer (some ⟨L.Wg,0,none⟩),.func ff #[] cap] n O w fun O' v w'=>v=.tuple #[]/\O'.own=Kp/\dM L (O1.keep Kp) W k (.sp (r-1)) O' w':=by
 obtain⟨na,ha⟩:=Ov (L:=L) (bO:=bO);co_apply Exists.intro;intro ff cap O1 W k r Kp O w hr hS hKp Ef;have aax:Hid (∀(O2:aI) (w2:af) (bw bf:Nat),dM L O1 W k (.go r) O2 w2->W.heap.size<=bw->W.heap.size<=bf->bw≠bf->OB bw (.cells #[.pointer (some ⟨L.Wg,0,none⟩)] 215) O2 w2->OB bf (.cells #[.func ff #[] cap] 1) O2 w2->bO r (born prog (xB bw bf)) w2 O2.own Kp):=Ef;clear Ef;have hm1:=lK prog;have hm2:=nh prog;co_apply bF func79 (by rfl) rfl;walk_nrmf ntmps79;co_apply (jy);co_apply bJ rfl (by rfl);intro W1 hR K hK;replace hS:=dM.rely hS hR;clear hR;go_simp;refine hK _ _ ⟨?_,?_⟩
 ·rw[listed_nil (by simp[go_sem])];exact DX.alloc _ _ _
 clear hK K;try walk_nrm
 have FZ:W.heap.size<=W1.heap.size:=hS.fr.rel.le;have hG:=And.intro (hS.alloc (.cells #[.pointer (some ⟨L.Wg,0,none⟩)] 215)) (OB.new O W1 (.cells #[.pointer (some ⟨L.Wg,0,none⟩)] 215));clear hS;generalize (O.grow W1 (W1.alloc (.cells #[.pointer (some ⟨L.Wg,0,none⟩)] 215)))=O2 at hG⊢;generalize (W1.alloc (.cells #[.pointer (some ⟨L.Wg,0,none⟩)] 215))=W2 at hG⊢;generalize W1.heap.size=bw at hG FZ⊢;co_apply bJ rfl (by rfl);intro W3 hR K hK;replace hG:=And.intro (dM.rely hG.1 hR) (OB.rely hG.2 hR);clear hR;go_simp;refine hK _ _ ⟨?_,?_⟩
 ·rw[listed_nil (by simp[go_sem])];exact DX.alloc _ _ _
 clear hK K;try walk_nrm
 have Rl:W.heap.size<=W3.heap.size:=hG.1.fr.rel.le;have hb:bw≠W3.heap.size:=Nat.ne_of_lt hG.2.lt;have hH:=And.intro (hG.1.alloc (.cells #[.func ff #[] cap] 1)) (And.intro (hG.2.alloc (.cells #[.func ff #[] cap] 1)) (OB.new O2 W3 (.cells #[.func ff #[] cap] 1)));clear hG;generalize (O2.grow W3 (W3.alloc (.cells #[.func ff #[] cap] 1)))=O3 at hH⊢;generalize (W3.alloc (.cells #[.func ff #[] cap] 1))=W4 at hH⊢;generalize W3.heap.size=bf at hH Rl hb⊢;have rl:∀{c:Ct} {o o':Obj} {O3:aI} {Wa Wb:af},(dM L O1 W k c O3 Wa/\OB bw o O3 Wa/\OB bf o' O3 Wa)->RX L O3 Wa Wb->(dM L O1 W k c O3 Wb/\OB bw o O3 Wb/\OB bf o' O3 Wb):=fun h x=>⟨h.1.rely x,h.2.1.rely x,h.2.2.rely x⟩
 co_apply (jy);(co_apply aN rfl (by rfl);intro _ hR K hK;replace hH:=rl hH hR;clear hR;(have hc:World.cell? _ ⟨bw,0,none⟩=some (.pointer (some ⟨L.Wg,0,none⟩)):=(show bg _ bw #[.pointer (some ⟨L.Wg,0,none⟩)] 215 from hH.2.1.heap).cell (o:=0) rfl);go_simp;refine hK _ ⟨?_,?_⟩;(focus(refine DX.still _ _ (cO (b:=false) hH.2.1.own fun e he=>?_);have hm:=mem_listed he;simp[go_sem,hc]at hm;subst hm;exact⟨_,rfl,rfl⟩));clear hK K;try walk_nrm);clear hc;co_apply bS (aF L) rfl (by rfl) rfl (by walk_nrm;exact ha _ _ k r _ _ hr ⟨qn.refl hH.1.fr.top,hH.1.ok,hH.1.pos,hH.1.no,hH.1.fu,hH.1.live⟩);rintro O4 x W6 ⟨rfl,hA⟩;have hI:=And.intro (show dM L O1 W k (.go r) O4 W6 from⟨hH.1.fr.trans hA.fr,hA.ok,hA.pos,hA.no,hA.fu,hA.live⟩) (And.intro (hH.2.1.Rk hA.fr) (hH.2.2.Rk hA.fr));clear hH hA;walk_nrm;co_apply (jy);(co_apply aN rfl (by rfl);intro _ hR K hK;replace hI:=rl hI hR;clear hR;(skip);go_simp;refine hK _ ⟨?_,?_⟩;(focus(rw[listed_nil (by simp[go_sem,hm2])];exact DX.idle _ _));clear hK K;try walk_nrm);co_apply GA (n:=0) hI.1.pos rfl (by rfl) rfl (by rfl);intro W7 hR;replace hI:=rl hI hR;clear hR;refine⟨Kp,aax.out _ _ _ _ hI.1 FZ Rl hb hI.2.1 hI.2.2,?_⟩;have hE:=hI.1.give (c':=.sp (r-1)) hKp;have hown:(O4.jump Kp (.mn (.sp (r-1)))).own=Kp:=rfl;clear hI;generalize O4.jump Kp (.mn (.sp (r-1)))=O5 at hE hown⊢;walk_nrm;co_apply (jy);exact .inl ⟨rfl,_,bR (aF L) (resultsC_none (by rfl) _),rfl,hown,hE⟩
end
end Go.Proofs.YteoahlieielcdaaGreat
