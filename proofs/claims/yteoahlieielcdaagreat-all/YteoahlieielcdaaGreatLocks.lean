import Derived.Test.YteoahlieielcdaaGreatM1
import Derived.Test.YteoahlieielcdaaGreatProg
import Derived.Conc.MuData
import Derived.Conc.MuLone
import Derived.Conc.WgGenN2
set_option linter.all false
set_option maxRecDepth 100000
namespace Go.Proofs.YteoahlieielcdaaGreat
open Go.Proofs.Tryz
variable{i₀ qt:Nat}
abbrev Tryz.Yg:Go.Conc.Locks.MuLink:={lock:=37,unlock:=38,ilock:=70,iunlock:=71,lockSlow:=111,unlockSlow:=114,disable:=107,enable:=109,acquire:=110,relMerge:=112,cas32:=108,add32:=113,tMutex:=101,tIMutex:=99,tPMutex:=133,tPIMutex:=204,tPI32:=206,tUP:=208,tNoCopy:=96,tU32:=97}
def Tryz.bD:Go.Conc.Locks.MuLib prog Tryz.Yg:=
 ⟨func37,func38,func70,func71,func107,func109,func110,func112,func108,func113,
  underlying99,Tryz.runUnderlying99,Tryz.sizeOf99,Tryz.isAgg99,Tryz.zeroValue99,
  underlying101,Tryz.runUnderlying101,Tryz.sizeOf101,Tryz.isAgg101,Tryz.zeroValue101,
  underlying133,Tryz.runUnderlying133,Tryz.sizeOf133,Tryz.isAgg133,Tryz.zeroValue133,
  underlying204,Tryz.runUnderlying204,Tryz.sizeOf204,Tryz.isAgg204,Tryz.zeroValue204,
  underlying206,Tryz.runUnderlying206,Tryz.sizeOf206,Tryz.isAgg206,Tryz.zeroValue206,
  underlying208,Tryz.runUnderlying208,Tryz.sizeOf208,Tryz.isAgg208,Tryz.zeroValue208,
  underlying96,Tryz.runUnderlying96,Tryz.sizeOf96,Tryz.isAgg96,Tryz.zeroValue96,
  underlying21,Tryz.runUnderlying21,Tryz.sizeOf21,Tryz.isAgg21,Tryz.zeroValue21,Yl⟩
abbrev Tryz.OS:Go.Conc.Lib.WgLink:={add:=117,done:=120,wait:=82,relMerge:=112,disable:=107,enable:=109,inBubble:=126,associate:=141,fatal:=142,uOr:=143,uAdd:=144,raceRead:=145,uLoad:=121,uStore:=146,disassociate:=124,semrelease:=147,acquire:=110,isAssociated:=122,uCas:=123,raceWrite:=125,semacquire:=127,orU64:=151,addU64:=152,loadU64:=148,storeU64:=153,casU64:=149,tWgP:=215,tUP:=208,tAssoc:=234,tWg:=155,tAU:=153,tU64:=151,tUint:=217,tU32:=97,tPU32:=221,tPAU:=238,tPU64:=240,tNoCopy:=96,tANoCopy:=149,tAlign64:=150}
def Tryz.tR:Go.Conc.Lib.WgLib prog Tryz.OS:=
 ⟨func117,func120,func82,func112,func107,func109,func126,func141,func142,func143,func144,func145,func121,func146,func124,func147,func110,func122,func123,func125,func127,func151,func152,func148,func153,func149,
  underlying215,Tryz.runUnderlying215,Tryz.sizeOf215,Tryz.isAgg215,Tryz.zeroValue215,
  underlying208,Tryz.runUnderlying208,Tryz.sizeOf208,Tryz.isAgg208,Tryz.zeroValue208,
  underlying234,Tryz.runUnderlying234,Tryz.sizeOf234,Tryz.isAgg234,Tryz.zeroValue234,
  underlying155,Tryz.runUnderlying155,Tryz.sizeOf155,Tryz.isAgg155,Tryz.zeroValue155,
  underlying153,Tryz.runUnderlying153,Tryz.sizeOf153,Tryz.isAgg153,Tryz.zeroValue153,
  underlying151,Tryz.runUnderlying151,Tryz.sizeOf151,Tryz.isAgg151,Tryz.zeroValue151,
  underlying217,Tryz.runUnderlying217,Tryz.sizeOf217,Tryz.isAgg217,Tryz.zeroValue217,
  underlying97,Tryz.runUnderlying97,Tryz.sizeOf97,Tryz.isAgg97,Tryz.zeroValue97,
  underlying221,Tryz.runUnderlying221,Tryz.sizeOf221,Tryz.isAgg221,Tryz.zeroValue221,
  underlying238,Tryz.runUnderlying238,Tryz.sizeOf238,Tryz.isAgg238,Tryz.zeroValue238,
  underlying240,Tryz.runUnderlying240,Tryz.sizeOf240,Tryz.isAgg240,Tryz.zeroValue240,
  underlying0,Tryz.runUnderlying0,Tryz.sizeOf0,Tryz.isAgg0,Tryz.zeroValue0,
  underlying3,Tryz.runUnderlying3,Tryz.sizeOf3,Tryz.isAgg3,Tryz.zeroValue3,
  underlying4,Tryz.runUnderlying4,Tryz.sizeOf4,Tryz.isAgg4,Tryz.zeroValue4,
  underlying9,Tryz.runUnderlying9,Tryz.sizeOf9,Tryz.isAgg9,Tryz.zeroValue9,
  underlying20,Tryz.runUnderlying20,Tryz.sizeOf20,Tryz.isAgg20,Tryz.zeroValue20,
  underlying21,Tryz.runUnderlying21,Tryz.sizeOf21,Tryz.isAgg21,Tryz.zeroValue21,
  Yl,Yl⟩
section
open Go Go.Conc Go.ConcN Go.RowKit Go.Conc.Lib Go.ConcR.Gen Go.ConcN.Gen
open Go.ConcR (KK wgBlock WgAt stA smA rd wr mk Payload Aside2 DC0)
def LF [Payload]{P:aB}{L:WgLink}(H:WgLib P L){Own Rd:Nat->Loc->Prop}{Wg C n Low k:Nat}{val:aj}{b₀:ak}{a₀:Act}{ops₀:Array Oper}{rest₀:List Nat}{k₀:List Item}{cs:List ak}{o:Oper}{xs:Array aD}{ats:Array az}
 (ho:ops₀[i₀]?=some o) (hw:Region.wanted o (yielded ops₀ a₀.tmps)=true) (hk:b₀.kind≠.early) (hop:o.op=.call {callee:=.value (.func L.done),args:=xs,argTypes:=ats}) (hx:xs.map a₀.eval=#[.pointer (some ⟨Wg,0,none⟩)])
 (hT:QuitsD P qt 0 (G (b₀.at (a₀.put ((ops₀[i₀]?).bind (·.dst)) (.tuple #[])) (.inRegion ops₀ rest₀ :: k₀)) cs)) (w:af) (hK:WgLive L.tWg Wg w/\Has C (k-1) val w):
 Goes P false (RW L.tWg Wg C n Low (k-1)) (DWs Wg Own Rd C n k) (AtR0 P L.tWg Wg C n Low k val) 24 (G (b₀.at a₀ (.inRegion ops₀ (i₀ :: rest₀):: k₀)) cs) w:=by lib_facts;have hA:=@addNegN _ L P H Own Rd Wg C n Low k val;simp only[body_add,addFn,Option.getD_some]at hA;u_in kn_rely hK;refine goes_call ho hw hk hop H.f_done (nm_done L) rfl ⟨by u_nil,?_⟩;rw[hx];walk_nrmf doneFn;u_reg kn_rely hK;u_op kn_rely hK;u_in kn_rely hK;refine goes_call rfl rfl (by k_ne) rfl H.f_add (nm_add L) rfl ⟨by u_nil,?_⟩;walk_nrmf addFn;refine hA (qt:=qt+3) ?_ _ hK;q_c stepG_region_end;q_c stepG_end;exact QuitsD.leave0 rfl rfl H.f_done rfl hT
end
end Go.Proofs.YteoahlieielcdaaGreat
