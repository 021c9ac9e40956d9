import Derived.Test.YteoahlieielcdaaGreatY9
import Derived.Test.YteoahlieielcdaaGreatK1
import Derived.Test.YteoahlieielcdaaGreatV12
set_option linter.all false
namespace Go.Proofs.YteoahlieielcdaaGreat
open Go Go.RowKit Go.MuLone Go.Conc
open Go.Maps (Keyed)
variable{d:Nat}{fr:Frame}
section
variable {w W W':World}{τ:Nat->Tag}{aD b:Nat}{s:MS}{A:SA}{i:Nat}{r:MR}{ab ba bc wg:Nat}{ms:List Int}{cv:Value}{Sb:Nat->Prop}
theorem bH.of_heap(h:bH w W τ aD b s A i r ab ba bc wg ms cv Sb)(e:W'.heap=W.heap):bH w W' τ aD b s A i r ab ba bc wg ms cv Sb:=by
 have eb:∀k:Nat,W'.heap[k]?=W.heap[k]? :=fun k=>by rw[e]
 obtain⟨C,hC,hz⟩:=h.NS;exact⟨h.rep,h.hr,h.fin,fun k hk hn=>(eb k).trans (h.same k hk hn),⟨C,hC.of_eq (eb _),hz⟩,h.R8.of_eq (eb _),h.R9.of_eq (eb _),h.cand,ak h.row (fun k _=>eb k),h.GZ.of_eq (eb _),h.ord,h.Sa,h.old⟩
structure Ow(H:bH w W τ aD b s A i r ab ba bc wg ms cv Sb)(w2:World):Prop where
 rs:RS H.L W w2
 VM:∀(j:Nat) (x:ByteArray),r.keys[j]?=some x->(nX s A i r ab ba bc).En x->Q7 ab j x ((nX s A i r ab ba bc).wn x) ((nX s A i r ab ba bc).tv x) w2
 ZX:∀(j:Nat) (x:ByteArray),r.keys[j]?=some x->¬(nX s A i r ab ba bc).En x->Q7 ab j x (fC (j7 s (partOf s.parts x).toNat) x ms) (valueOf (j7 s (partOf s.parts x).toNat (fC (j7 s (partOf s.parts x).toNat) x ms)) x) w2
 mu:∀q,q<s.parts->eu (A.pb q) ⟨false,false,false,0⟩ 0 w2
 GZ:bS 155 wg ⟨0,false,0⟩ w2
 kp:E6 W w2
 rep:aW w2 (fresh τ ab) aD b (Fc s i r) A
theorem bH.mu(h:bH w W τ aD b s A i r ab ba bc wg ms cv Sb){q:Nat}(hq:q<s.parts):eu (A.pb q) ⟨false,false,false,0⟩ 0 W:=by have hb:=h.blk (h.rep.part q hq) (h.rep.cS q hq) (by omega);have iR:W.heap[A.pb q]?=some (.cells #[fy,gF,.map (some (A.kb q)),.map (some (A.vb q))] 202):=hb;exact⟨hb.cell (o:=0) rfl,hb.cell (o:=1) rfl,fun o=>by simp[World.frozen?,iR]⟩
theorem bH.after(h:bH w W τ aD b s A i r ab ba bc wg ms cv Sb){w2 w3:World}(h3:aW w3 τ aD b (Fc s i r) A)(h4:w3.heap.size<=ab)(h5:∀k,k<w3.heap.size->W.heap[k]?=w3.heap[k]?)(hr:RS h.L W w2)(hm:∀q,q<s.parts->eu (A.pb q) ⟨false,false,false,0⟩ 0 w2):aW w2 (fresh τ ab) aD b (Fc s i r) A:=by
 refine h3.frame fun k hk ht=>⟨?_,by unfold fresh;rw[if_neg (by omega)]⟩
 have h1:=h.ord;have h2:=h.GZ.lt;by_cases hp:∃q,q<s.parts/\k=A.pb q
 ·obtain⟨q,hq,rfl⟩:=hp;have hb:w3.heap[A.pb q]?=some (.cells #[fy,gF,.map (some (A.kb q)),.map (some (A.vb q))] 202 (0,0)):=h3.part q hq;obtain⟨c,e1,e2⟩:=hr.sh (A.pb q) _ _ _ (.inr (.inr ⟨q,hq,rfl⟩)) ((h5 _ hk).trans hb);have hW:aT W (A.pb q) #[fy,gF,.map (some (A.kb q)),.map (some (A.vb q))] 202:=(h5 _ hk).trans hb;have g0:=(hm q hq).word;have g1:=(hm q hq).sema;have g2:=(hr.K3 ⟨A.pb q,2,none⟩ ⟨rfl,by simp,q,hq,rfl⟩).trans (hW.cell (o:=2) rfl);have g3:=(hr.K3 ⟨A.pb q,3,none⟩ ⟨rfl,by simp,q,hq,rfl⟩).trans (hW.cell (o:=3) rfl);have e3:c.size=4:=e2;rw[e1,hb];congr 2;have hc:∀o:Nat,w2.cell? ⟨A.pb q,o,none⟩=c[o]? :=fun o=>by simp[World.cell?,e1]
  rw[hc]at g0 g1 g2 g3;apply Array.ext_getElem?;intro o;match o with
  | 0=>exact g0
  | 1=>exact g1
  | 2=>exact g2
  | 3=>exact g3
  |o+4=>rw[Array.getElem?_eq_none (by omega),Array.getElem?_eq_none (by simp)]
 ·rw[hr.blk k (by omega) ⟨by omega,fun e=>?_,fun e=>?_,fun q hq e=>hp ⟨q,hq,e⟩,fun e=>(h.old k e).2 ht⟩,h5 k hk]
  ·have e':k=ab:=e;omega
  ·have e':k=wg:=e;omega
theorem bH.gw(h:bH w W τ aD b s A i r ab ba bc wg ms cv Sb):bS 155 wg ⟨0,false,0⟩ W:=h.GZ
end
theorem Sc{fr':Frame}{c:List Frame}(h:AG w7 d fr c)(hf:fr.fn=44)(e1:fr'.fn=fr.fn)(e2:fr'.kind=fr.kind)(e3:fr'.roundOf=fr.roundOf)(e4:fr'.defers= [])(e5:fr'.mode=.returning):AG w7 0 fr' c:=by
 obtain⟨out,⟨h1,h2⟩,h3⟩:=h;have hout:out=0:=by
  obtain⟨a,ha⟩:=h1.j8;rw[hf]at ha;have h4:=CR.two _ _ _ ha;rcases Nat.lt_or_ge a 1 with h5|h5
  ·obtain rfl:a=0:=by omega
   have e:w7.j8 44 0=some 0:=by kernel_rfl
   rw[e]at ha;cases ha;rfl
  ·obtain rfl:a=1:=by omega
   have e:w7.j8 44 1=none:=by kernel_rfl
   rw[e]at ha;cases ha
 subst hout;refine⟨0,⟨⟨by rw[e3];exact h1.round,(fun x hx=>by rw[e4]at hx;simp at hx),by rw[e2];exact h1.kind,by rw[e1];exact h1.j8,.inr (.inl e4)⟩,?_⟩,by rw[e2];exact h3⟩;unfold gQ;rw[e5];show 0=0+oT w7 fr';unfold oT;rw[e1,hf];rfl
section
variable {w v:World}{τ:Nat->Tag}{aD b:Nat}{s:MS}{A:SA}{i:Nat}{r:MR}{Sb:Nat->Prop}
theorem CS{c0 c cs:List Frame}{gs:Array Goroutine}{W:World}{t:Trace}{q:Nat->Nat}(hA:Ig w τ aD b s A i r Sb c0 fr c v)(hC:Crowd Tryz.prog w7 Sb d fr c cs gs t q)(hv:W.heap=v.heap)(sl:Option (Nat×Nat)):
 ∃(ab ba bc wg:Nat) (ms:List Int) (cv:Value) (fF:Frame) (H:bH w W τ aD b s A i r ab ba bc wg ms cv Sb) (N:Nat) (gs':Array Goroutine) (w2:World) (sl':Option (Nat×Nat)) (t':Trace) (q':Nat->Nat) (XF:Frame) (n:Int),
  c=fF :: c0/\VN fF/\runNT Tryz.prog N (crowd gs W sl) t=(.next (crowd gs' w2 sl'),t')/\Crowd Tryz.prog w7 (fun k=>Sb k\/k=wg) 0 XF (fF :: c0) cs gs' t' q'/\
  (∀w',XF.leaving Tryz.prog w' (.returned (.tuple #[.slice (some ⟨ab,0,none⟩) r.keys.length r.keys.length,.int .i64 n])))/\Ow H w2:=by
 obtain⟨bf,a,ab,ba,bc,wg,ms,cv,fF,rfl,hb,hk,rfl,hF,hl,hI,⟨w3,RY,hR4,hR5⟩,hS⟩:=hA.ex
 have H:=hI.of_heap hv
 have hd:d=0:=Sd hC.stk hb rfl rfl
 subst hd
 have hP:tE (J8 Sb) t:=hC.past.ZY hC.deaf
 have h1:=H.size
 have h2:=H.ord
 obtain⟨N,gs',w2,sl',t',a',todo,q',O,r1,r2,r3,r4,r5,r6,r7,r8,r9,r10,r11⟩:=CU (sl:=sl) H.ZZ H.aeo (fun k hk=>by have:=(H.old k hk).1;omega) (fun k hk=>by
  refine⟨?_,fun hx=>?_⟩
  ·rcases hk with hk|hk|⟨q,hq,hk⟩
   ·rw[hk];exact H.hab
   ·rw[hk];exact h1.2
   ·rw[hk];exact H.Nc q hq
  ·rcases hk with hk|hk|⟨q,hq,hk⟩
   ·exact hx.2.1 hk
   ·exact hx.2.2.1 hk
   ·exact hx.2.2.2.1 q hq hk) hb (by rw[hk];decide) hl H.gw (fun p hp=>H.mu hp) hC.at0 hC.lv hP hC.bd
 refine⟨ab,ba,bc,wg,ms,cv,fF,H,N,gs',w2,sl',t',q',{bf.at a' todo with mode:=.returning},((nX s A i r ab ba bc).uR (nX s A i r ab ba bc).N:Nat),rfl,hF,r1,⟨r3,Sc hC.stk hb rfl rfl rfl r4.d0 rfl,r6.hears,r5,r6.Z0,r7⟩,fun w'=>⟨rfl,r4.d0,hk,Tryz.f44,by show Tryz.prog.funcs[bf.fn]?=_;rw[hb];exact Tryz.func44,?_⟩,⟨r4.rs,fun j x hx he=>r4.NS j x hx he,fun j x hx he=>r10 j x hx he,r8,r9,r11,H.after RY hR4 (fun k hk=>by rw[hv];exact hR5 k hk) r4.rs r8⟩⟩
 have q2:=r4.r2
 have q3:=r4.r3
 simp[results,Frame.at,Array.getD_eq_getD_getElem?,q2,q3]
 exact⟨rfl,rfl,rfl⟩
end
end Go.Proofs.YteoahlieielcdaaGreat
