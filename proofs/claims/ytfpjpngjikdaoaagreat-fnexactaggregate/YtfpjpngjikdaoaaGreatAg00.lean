import Derived.Below
import Derived.RowKit
import Derived.Test.YtfpjpngjikdaoaaGreatProg
import Derived.WalkKit
import Derived.BigQuiet
import Derived.Deep.QuietTactic
import Derived.Deep.RegionWith
import Derived.Handy
import Derived.WalkLawsBesides
import Derived.WalkSpells
set_option maxHeartbeats 40000000
set_option maxRecDepth 1000000
set_option linter.defProp false
open List Go.World
open List renaming length->E,getD->U
open Array renaming size->J
open Go.World renaming alloc->S,setCell->sW,cell?->eQ
open Go.Value renaming slice->Z,bool->oB,agg->aQ
open Go.Obj renaming cells->eZ
open Go.Ending renaming returned->rE
open Option renaming some->Q
open Bool renaming false->nF
open Decidable renaming decide->oD
open Go renaming World->oX,Value->oV
namespace Go.Proofs.YtfpjpngjikdaoaaGreat
open Go.RowKit
abbrev NQ:=Nat->Nat->Rat
abbrev NR:=Nat->Rat
abbrev NB:=Nat->Bool
abbrev NN:=Nat->Nat
abbrev LV:=List oV
abbrev OA:=Option Addr
abbrev WP:=oX->Prop
abbrev LP:=List (Int×Int)
abbrev AV:=Array oV
abbrev LN:=List Nat
abbrev Bl(a b:oX):Prop:=Below a.1.size a b
abbrev Cl:=Calls Tryz.prog
abbrev aZ:=@List.pairwise_iff_getElem
abbrev eP:=@Go.wpList_append_own
abbrev eT:=@Bool.or_eq_true
abbrev eU:=@Option.some.inj
abbrev eV:=@Classical.byContradiction
abbrev eX:=@Bool.false_and
abbrev eY:=@Bool.not_eq_true'
abbrev iB:=@and_true
abbrev iF:=@Nat.le_succ
abbrev iG:=@Rat.mul_nonneg
abbrev iH:=@List.filter_cons_of_neg
abbrev iI:=@List.eq_nil_of_length_eq_zero
abbrev iK:=@Option.toList_some
abbrev iL:=@Go.Obj.cells.injEq
abbrev iN:=@List.filter_cons_of_pos
abbrev iO:=@List.Pairwise.nil
abbrev iV:=@Nat.sub_self
abbrev iW:=@Array.getElem_toList
abbrev iX:=@List.filter_cons
abbrev iY:=@List.any_eq_true
abbrev jU:=@List.pairwise_cons
abbrev mR:=@List.length_nil
abbrev mS:=@List.cons.injEq
abbrev mT:=@List.all_eq_false
abbrev mU:=@Nat.mul_le_mul
abbrev mV:=@List.pairwise_singleton
abbrev mW:=@List.pairwise_map
abbrev mX:=@Int.mul_ne_zero
abbrev mY:=@List.mem_flatMap
abbrev nD:=@List.map_map
abbrev nE:=@List.map_cons
abbrev nG:=@Bool.false_eq_true
abbrev nH:=@List.length_range
abbrev nI:=@if_true
abbrev nJ:=@Go.wpList_make_own
abbrev nK:=@Go.results_none
abbrev nM:=@List.length_pos_of_mem
abbrev nO:=@Int.natAbs_mul
abbrev nQ:=@Nat.le_add_right
abbrev nS:=@Int.natAbs_natCast
abbrev nU:=@Bool.not_eq_false'
abbrev nV:=@List.getElem?_range
abbrev nW:=@Go.callsIn_wide
abbrev nX:=@List.cons_append
abbrev nY:=@Array.getElem?_modify
abbrev oC:=@List.ext_getElem?
abbrev oE:=@Nat.lt_trichotomy
abbrev oF:=@Go.wpIn_wide
abbrev oG:=@Array.getElem?_append_left
abbrev oH:=@Go.World.frozen?_alloc_past
abbrev oJ:=@Exists.intro
abbrev oK:=@decide_eq_decide
abbrev oL:=@List.sum_append
abbrev oQ:=@List.nil_append
abbrev oY:=@Option.map_some
abbrev oZ:=@Nat.add_sub_cancel
abbrev pA:=@List.nodup_cons
abbrev pC:=@Rat.divInt_mul_divInt
abbrev pD:=@Bool.and_eq_false_iff
abbrev pE:=@List.filter_congr
abbrev pF:=@Bool.false_or
abbrev pG:=@Rat.div_def
abbrev pH:=@Array.replicate_zero
abbrev pI:=@Array.replicate_succ
abbrev pJ:=@Go.frozen_of_row
abbrev pK:=@Rat.mul_eq_zero
abbrev pL:=@Bool.eq_iff_iff
abbrev pM:=@Array.getElem?_setIfInBounds
abbrev pN:=@Go.World.size_setCell
abbrev pP:=@Nat.le_of_lt
abbrev pQ:=@List.mem_of_find?_eq_some
abbrev pR:=@List.getElem?_eq_some_iff
abbrev pS:=@List.drop_eq_getElem_cons
abbrev pT:=@Bool.and_false
abbrev pU:=@of_decide_eq_false
abbrev pV:=@Nat.eq_zero_or_pos
abbrev pW:=@Array.extract_size
abbrev pX:=@Rat.le_refl
abbrev pY:=@List.nodup_append
abbrev qP:=@Int.le_refl
abbrev rA:=@Int.lt_trichotomy
abbrev rC:=@List.nodup_nil
abbrev rD:=@Prod.mk.injEq
abbrev rF:=@List.filter_nil
abbrev rG:=@Nat.mod_eq_of_lt
abbrev rH:=@List.eq_nil_iff_forall_not_mem
abbrev rI:=@Rat.le_of_lt
abbrev rJ:=@List.filter_eq_nil_iff
abbrev rK:=@List.getElem?_drop
abbrev rL:=@Go.wpList_make_full
abbrev rM:=@Rat.divInt_add_divInt
abbrev rN:=@List.take_zero
abbrev rO:=@if_false
abbrev rP:=@Bool.not_false
abbrev rQ:=@Int.ofNat_eq_natCast
abbrev rR:=@Bool.or_eq_false_iff
abbrev rS:=@List.map_nil
abbrev rT:=@List.length_set
abbrev rU:=@List.size_toArray
abbrev rV:=@List.pairwise_append
abbrev rW:=@List.mem_of_getElem?
abbrev rX:=@List.mem_iff_getElem
abbrev rY:=@Array.length_toList
abbrev sA:=@Go.wp_loop_rounds
abbrev sB:=@Go.World.cell?_spot
abbrev sD:=@List.take_prefix
abbrev sE:=@List.ext_getElem
abbrev sF:=@List.drop_length
abbrev sG:=@List.take_succ_cons
abbrev sH:=@List.append_toArray
abbrev sI:=@Go.run_makeSlice_owned
abbrev sJ:=@Iff.rfl
abbrev sK:=@Int.neg_tdiv
abbrev sL:=@Int.le_of_lt
abbrev sM:=@Nat.add_mod_right
abbrev sN:=@Nat.add_div_right
abbrev sO:=@Int.toNat_natCast
abbrev sP:=@Bool.eq_false_iff
abbrev sQ:=@Classical.not_and_iff_not_or_not
abbrev sR:=@Array.all_eq_true_iff_forall_mem
abbrev sT:=@List.getElem_range
abbrev sU:=@Nat.div_eq_of_lt
abbrev sV:=@Nat.mul_one
abbrev gD:=@List.getD_eq_getElem?_getD
abbrev gE:=@List.getElem?_eq_getElem
abbrev bL:=@World.block_lt_of_cell?
abbrev bC:=@World.cell?_setCell_other
abbrev fS:=@World.frozen?_setCell
abbrev bD:=@Below.heap_setCell
abbrev bE:=@World.cell?_alloc_at
abbrev bF:=@World.cell?_of_block
abbrev oM:=@World.ownsRow_made
abbrev oN:=@World.ownsRow_nil
abbrev gM:=@List.getElem_mem
abbrev bG:=@World.cell?_setCell_same
abbrev bI:=@heap_setCell_same
abbrev nR:=@_root_.Nat.le_refl
abbrev nZ:=@_root_.Nat.zero_le
abbrev bJ:=@Below.refl
abbrev gO:=@List.getElem_of_mem
abbrev tA:=@List.take_add_one
abbrev tL:=@List.take_length
abbrev lA:=@List.length_append
abbrev lS:=@List.length_singleton
abbrev lM:=@List.length_map
abbrev bK:=@List.getElem?_map
abbrev mA:=@List.map_append
abbrev bM:=@_root_.Nat.le_trans
abbrev bN:=@_root_.Nat.lt_of_lt_of_le
abbrev gN:=@List.getElem?_eq_none
abbrev aL:=@List.getElem?_append_left
abbrev bQ:=@List.getElem?_append_right
abbrev dE:=@decide_eq_true_eq
abbrev bV:=@Bool.and_eq_true
abbrev aT:=@List.all_eq_true
abbrev mC:=@List.mem_cons_of_mem
abbrev bZ:=@List.length_take
abbrev tD:=@List.take_append_drop
abbrev aI:=@Go.Addr.mk.injEq
abbrev oI:=@Option.some.injEq
abbrev vI:=@Value.slice.injEq
abbrev cC:=@List.mem_map
abbrev cF:=@List.mem_append
abbrev cH:=@List.mem_cons
abbrev cI:=@List.mem_singleton
abbrev cJ:=@List.mem_range
abbrev cK:=@List.mem_filter
abbrev cL:=@List.getElem?_take_of_lt
abbrev cQ:=@List.length_cons
abbrev cU:=@_root_.Nat.zero_add
abbrev cV:=@List.map_congr_left
abbrev cY:=@List.mem_cons_self
abbrev cZ:=@List.filter_append
abbrev dA:=@World.frozen?_of_block
abbrev dB:=@World.frozen?_alloc_at
abbrev dC:=@_root_.Array.getElem?_eq_getElem
abbrev dF:=@List.mem_map_of_mem
abbrev dG:=@Bool.true_and
abbrev dH:=@List.length_filter_le
abbrev dI:=@Option.getD_some
abbrev dJ:=@Below.heap_alloc
abbrev dK:=@_root_.Array.getElem?_eq_some_iff
abbrev dL:=@_root_.Nat.lt_or_ge
abbrev dM:=@List.flatMap_append
abbrev dN:=@List.append_assoc
abbrev dO:=@_root_.Array.getElem?_eq_none
abbrev dP:=@List.length_drop
abbrev dQ:=@List.range_succ
abbrev dR:=@World.cell?_alloc_past
abbrev dS:=@List.flatMap_cons
abbrev dT:=@List.length_replicate
abbrev dU:=@List.append_nil
abbrev dV:=@List.length_eq_zero_iff
abbrev dW:=@List.mem_append_left
abbrev dX:=@List.mem_append_right
abbrev dY:=@_root_.Array.getElem?_toList
abbrev dZ:=@heap_alloc_new
abbrev fA:=@cell_of_row
abbrev fB:=@List.getElem_map
abbrev fC:=@decide_eq_false
abbrev fD:=@decide_eq_true
abbrev fE:=@if_pos
abbrev fF:=@if_neg
def O1{a P:Prop}(x:a)(h:a->P:=by intro _;omega):P:=h x
abbrev sZ(b o n c:Nat):oV:=Z (Q ⟨b,o,none⟩) n c
def Cr{w:oX}{b i}{cs:AV}{t fr v}(h:w.1[b]?=Q (eZ cs t fr))(e:cs[i]?=Q v:=by rfl):eQ w ⟨b,i,none⟩=Q v:=by
 rw[fA _ _ _ _ _ _ h];exact e
def Oo{P:Prop}(h:P:=by omega):P:=h
def Dd{P:Prop}(h:P:=by decide):P:=h
def Gg{P:Prop}(h:P:=by go_num):P:=h
def Ss{P:Prop}(h:P:=by simp):P:=h
def Rr{P:Prop}(h:P:=by grind):P:=h
def Fl{P:Prop}(h:P:=by rfl):P:=h
def Kl{P:Prop}(h:P:=by kernel_rfl):P:=h
def tS{α}{a:Option α}{x y:α}(h:a=Q x)(e:x=y:=by kernel_rfl):a=Q y:=h.trans (congrArg Q e)
def Sy{P:Prop}(h:P:=by simp;omega):P:=h
def Um{P:Prop}(h:P:=by unfold maxLen;omega):P:=h
def Sg{P:Prop}(h:P:=by simp[go_sem]):P:=h
def Nq{P:Prop}(h:P:=by intro e;simp only[aI]at e;omega):P:=h
def Im{P:Prop}(h:P:=by simp[mZ,intOf,RowKit.intOf];omega):P:=h
def Hu{P:Prop}(h:P:=by intro u hu;simp at hu;subst hu;rfl):P:=h
def aK{w o}:Below (J w.1) w (S w o):=(bJ _ _).alloc (nR _) _
def Ex{a}(x:a):∃y,y=x:=⟨_,rfl⟩
abbrev az(b o:Nat):Addr:=⟨b,o,none⟩
abbrev ai:=Value.int .i64
abbrev pZ(b i:Nat):oV:=.pointer (Q (az b i))
abbrev sn:oV:=Z none 0 0
abbrev aC(w:oX)(b o:Nat)(v:oV):Prop:=eQ w (az b o)=Q v
abbrev aJ(w:oX)(a:Array oV)(t:TypeId):oX:=S w (eZ a t)
abbrev sC(w:oX)(b o:Nat)(v:oV):oX:=sW w (az b o) v
def Cl.mn{f g w v}{R:oX->Prop}{iQ}(h:Cl f g w λe x=>e=rE v/\R x)(k:∀x,R x->iQ (rE v) x):Cl f g w iQ:=h.mono λ_ x⟨a,b⟩=>a▸k x b
abbrev aM:=@World.size_alloc
abbrev aN:=@of_decide_eq_true
abbrev aO:=@List.setIfInBounds_toArray
abbrev aP:=@decide_eq_false_iff_not
abbrev aU:=@bodyPost_ret
abbrev aX:=@info_parts
abbrev aH:=@Rat.num_divInt_den
abbrev bk:=@List.set_cons_zero
abbrev bn:=@List.set_cons_succ
abbrev aF(f:FuncId)(a:Array oV)(w:oX)(v:oV)(R:oX->Prop):Prop:=Cl f a w λe x=>e=rE v/\R x
abbrev aG(f:FuncId)(a:Array oV)(w:oX)(v:oV):Prop:=Cl f a w λe x=>e=rE v/\Bl w x
def aY(j:Nat):¬(j:Int)<j:=by omega
def aV{k n:Nat}(h:k<n):(k:Int)<n:=by omega
abbrev eG{a b c d}:=bD a b c d
abbrev eE{a b c d}:=bC a b c d
abbrev eF{a b c d}:=fS a b c d
abbrev eH{w a b c d}:=@bE w a b c d
abbrev eI{a b c d e f}:=fA a b c d e f
abbrev eJ{a b c d}:=@bG a b c d
abbrev eK{a b c d}:=oN a b c d
abbrev eL{a b c}:=dJ a b c
abbrev eM{w a b c d}:=@dB w a b c d
abbrev eN{a b c d e f}:=bI a b c d e f
abbrev eO{a b}:=dZ a b
abbrev eB{a b}:=bJ a b
def eA{n:Nat}:n<=n:=nR _
def eC{n:Nat}:0<=n:=nZ _
def Wz{P:Prop}(h:P:=by first|(rw[fS];assumption)|(rw[bC _ _ _ _ Nq];assumption)|exact bG _ _ _ (by assumption)):P:=h
def Wv{P:Prop}(h:P:=by constructor;constructor;all_goals exact Wz):P:=h
abbrev LI:=List Int
abbrev LL:=List (List Int)
def Hh(p:Prop):Prop:=p
def Hh.o{p}(h:Hh p):p:=h
def ay{p}(h:p):Hh p:=h
end Go.Proofs.YtfpjpngjikdaoaaGreat
namespace Go.Proofs.YtfpjpngjikdaoaaGreat.RatM
def gcd_step a b:Int.gcd b (a.tmod b)=Int.gcd a b:=by
 unfold Int.gcd;rw[Int.natAbs_tmod,Nat.gcd_comm a.natAbs,Nat.gcd_rec b.natAbs a.natAbs,Nat.gcd_comm]
def natAbs_tmod_lt(a b:Int)(h:b≠0):(a.tmod b).natAbs<b.natAbs:=by
 rw[Int.natAbs_tmod];exact Nat.mod_lt _ Oo
def gcd_zero a:(Int.gcd a 0:Int)=max a (-a):=by
 simp;omega
def gcd_pos a b(h:b≠0):0<(Int.gcd a b:Int):=by
 have:=Int.gcd_pos_of_ne_zero_right a h;omega
def gcd_le a b(h:b≠0):(Int.gcd a b:Int)<=b.natAbs:=by
 have:=Nat.gcd_le_right (n:=b.natAbs) a.natAbs Oo;unfold Int.gcd;omega
def frN(num den:Int):Int:=if den<0 then (-num).tdiv (Int.gcd num den) else num.tdiv (Int.gcd num den)
def frD(num den:Int):Int:=if den<0 then (-den).tdiv (Int.gcd num den) else den.tdiv (Int.gcd num den)
def tdiv_abs_le(a g:Int):(a.tdiv g).natAbs<=a.natAbs:=by
 rw[Int.natAbs_tdiv];exact Nat.div_le_self _ _
def QE(a b:Int)(h:b≠0):Int.gcd (a.tdiv (Int.gcd a b)) (b.tdiv (Int.gcd a b))=1:=by
 unfold Int.gcd;rw[Int.natAbs_tdiv,Int.natAbs_tdiv,nS];exact Nat.gcd_div_gcd_div_gcd_of_pos_right Oo
def fr_coprime a b(h:b≠0):Int.gcd (frN a b) (frD a b)=1:=by
 unfold frN frD;split;have:=QE (-a) (-b) Oo;simpa using this;exact QE a b h
def Xv{a g:Int}(I:0<g)(h:g<=a):0<a.tdiv g:=by
 rw[Int.tdiv_eq_ediv_of_nonneg Oo];have:=Int.ediv_le_ediv I h;rw[Int.ediv_self Oo]at this;omega
def frD_pos a b(h:b≠0):0<frD a b:=by
 have I:=gcd_pos a b h;have K:=gcd_le a b h;unfold frD;split;exact Xv I Oo;exact Xv I Oo
def gcd_abs a b:Int.gcd (a.natAbs:Int) (b.natAbs:Int)=Int.gcd a b:=by
 unfold Int.gcd;simp
def gcd_neg_neg a b:Int.gcd (-a) (-b)=Int.gcd a b:=Ss
def qH7 a b:(if b<0 then -a else a)=(Int.gcd a b:Int)*frN a b:=by
 have I:(Int.gcd a b:Int) ∣ a:=Int.gcd_dvd_left ..;unfold frN;split;rw[Int.mul_tdiv_cancel'];exact(Int.dvd_neg).2 I;rw[Int.mul_tdiv_cancel' I]
def frN_sign a b(h:0<b):(frN a b<0↔a<0)/\(0<frN a b↔0<a):=by
 have K:=gcd_pos a b Oo;have M:=qH7 a b;rw[fF Oo]at M;generalize (Int.gcd a b:Int)=g,frN a b=n at *;subst M;constructor
 .constructor;intro h;exact Int.mul_neg_of_pos_of_neg K h;intro h;rcases Int.lt_or_le n 0 with I|I;exact I;have:=Int.mul_nonneg (sL K) I;omega
 constructor;intro h;exact Int.mul_pos K h;intro h;rcases Int.lt_or_le 0 n with I|I;exact I;have:=Int.mul_nonneg (sL K) (show 0<=-n by omega);rw[Int.mul_neg]at this;omega
def sgn(n:Int):Int:=if n<0 then -1 else if 0<n then 1 else 0
def sgn_congr x n(h:(x<0↔n<0)/\(0<x↔0<n)):sgn x=sgn n:=by
 have⟨I,K⟩:=h;unfold sgn;repeat' split
 all_goals omega
def sgn_gt n(h:0<n):sgn n=1:=by unfold sgn;rw[fF Oo,fE h]
end Go.Proofs.YtfpjpngjikdaoaaGreat.RatM
namespace Go.Proofs.YtfpjpngjikdaoaaGreat.Meet
def Asc(l:LI):Prop:=∀i j,i<j->j<E l->U l i 0<U l j 0
end Go.Proofs.YtfpjpngjikdaoaaGreat.Meet
namespace Go.Proofs.YtfpjpngjikdaoaaGreat
def yo(nxt:LI->LI)(p:LI):Nat->LL
 |0=>[p]
 |j+1=>(yo nxt p j).flatMap λq=>(nxt q).map λv=>q++[v]
def zH(nxt:LI->LI):Nat->LI->LL
 |0,p=>[p]
 |m+1,p=>p::(nxt p).flatMap λv=>zH nxt m (p++[v])
def YL{α β γ:Type}(l:List α)f(g:β->List γ):(l.flatMap f).flatMap g=l.flatMap λa=>(f a).flatMap g:=by
 induction l with
 |nil=>rfl
 |cons a l ih=>rw[dS,dM,ih,dS]
def U5 nxt p:∀j,yo nxt p (j+1)=(nxt p).flatMap λv=>yo nxt (p++[v]) j
 |0=>by
  show([p].flatMap λq=>(nxt q).map λv=>q++[v])=(nxt p).flatMap λv=>[p++[v]];rw[flatMap_singleton];induction nxt p with
  |nil=>rfl
  |cons a l ih=>rw[map_cons,dS,ih];rfl
 |j+1=>by
  show(yo nxt p (j+1)).flatMap _=_;rw[U5 nxt p j,YL];rfl
def Qy nxt p:∀j,∀q∈yo nxt p j,E q=E p+j
 |0,q,h=>by simp[yo]at h;rw[h];rfl
 |j+1,q,h=>by
  simp only[yo,mem_flatMap,cC]at h;obtain⟨r,I,v,-,rfl⟩:=h;rw[lA,Qy nxt p j r I];rfl
def QA{α β:Type}(l:List α)f(q:β->Bool):(l.flatMap f).filter q=l.flatMap λa=>(f a).filter q:=by
 induction l with
 |nil=>rfl
 |cons a l ih=>rw[dS,cZ,ih,dS]
def Zp nxt:∀(m:Nat) (p q:LI),q∈zH nxt m p->E p<=E q/\E q<=E p+m
 |0,p,q,h=>by simp[zH]at h;rw[h];omega
 |m+1,p,q,h=>by
  simp only[zH,cH,mem_flatMap]at h;rcases h with rfl|⟨v,-,hq⟩;omega;have:=Zp nxt m (p++[v]) q hq;rw[lA,lS]at this;omega
def qAn nxt:∀m p j,j<=m->(zH nxt m p).filter (λq=>oD (E q=E p+j))=yo nxt p j
 |0,p,j,hj=>by
  obtain rfl:j=0:=Oo;simp[zH,yo]
 |m+1,p,0,_=>by
  show((p::(nxt p).flatMap λv=>zH nxt m (p++[v])).filter _)=[p];rw[filter_cons,fE Ss,QA];have h:∀l:LI,(l.flatMap λv=>(zH nxt m (p++[v])).filter λq=>oD (E q=E p+0))=[]:=λl=>by
   rw[flatMap_eq_nil_iff];intro v _;rw[filter_eq_nil_iff];intro q hq;have:=(Zp _ m _ q hq).1;rw[lA,lS]at this;simp;omega
  rw[h]
 |m+1,p,j+1,hj=>by
  show((p::(nxt p).flatMap λv=>zH nxt m (p++[v])).filter _)=_;rw[filter_cons,fF Ss,QA,U5];congr 1;funext v;have:=qAn nxt m (p++[v]) j Oo;rw[lA,lS]at this;rw[<-this];congr 1;funext q;congr 1;rw[eq_iff_iff];omega
def qm(ps:LL)(n:Nat):Nat:=E (ps.filter λq=>oD (E q=n))
def Zq ps(p:LI)n:qm (ps++[p]) n=qm ps n+if E p=n then 1 else 0:=by
 unfold qm;rw[cZ,lA];by_cases h:E p=n <;> simp[h]
def qHm{ps}qs n:qm ps n<=qm (ps++qs) n:=by
 unfold qm;rw[cZ,lA];omega
def VG ps:∀k,(∀q∈ps,E q<=k)->E (ps.filter λq=>oD (0<E q))=((range k).map λj=>qm ps (j+1)).sum:=by
 induction ps with
 |nil=>
  intro k _;have h:∀k:Nat,((range k).map λj=>qm [] (j+1)).sum=0:=λk=>by
   induction k with
   |zero=>rfl
   |succ k ih=>rw[dQ,mA,sum_append,ih];rfl
  rw[h];rfl
 |cons p ps ih=>
  intro k h;have K:=ih k λq hq=>h q (mC _ hq);have M:=h p cY;have I:∀n,qm (p::ps) n=qm ps n+if E p=n then 1 else 0:=λn=>by
   unfold qm;rw[filter_cons];by_cases e:E p=n <;> simp[e]
  have hs:∀k,E p<=k->((range k).map λj=>qm (p::ps) (j+1)).sum=((range k).map λj=>qm ps (j+1)).sum+if 0<E p then 1 else 0:=λk=>by
   induction k with
   |zero=>
    intro h0;have O:E p=0:=Oo;rw[O];rfl
   |succ k ihk=>
    intro hk;rw[dQ,mA,sum_append,mA,sum_append];simp;rw[I];by_cases e:E p=k+1
    .have V:((range k).map λj=>qm (p::ps) (j+1))=(range k).map λj=>qm ps (j+1):=cV λj hj=>by
      rw[I,fF (O1 (cJ.1 hj))];rfl
     rw[V,fE e,fE Oo];omega
    rw[ihk Oo,fF e];omega
  rw[hs k M,<-K,filter_cons];by_cases e:0<E p;rw[fE (by simpa using e),fE e,cQ];rw[fF (by simpa using e),fF e];rfl
end Go.Proofs.YtfpjpngjikdaoaaGreat
namespace Go.Proofs.YtfpjpngjikdaoaaGreat.Cov
def sm:Nat->(NR)->Rat
 |0,_=>0
 |n+1,f=>sm n f+f n
def sm_congr{n f g}(h:∀i,i<n->f i=g i):sm n f=sm n g:=by
 induction n with
 |zero=>rfl
 |succ n ih=>
  show sm n f+f n=sm n g+g n;rw[ih (λi hi=>h i Oo),h n Oo]
def sm_zero{n f}(h:∀i,i<n->f i=0):sm n f=0:=by
 induction n with
 |zero=>rfl
 |succ n ih=>
  show sm n f+f n=0;rw[ih (λi hi=>h i Oo),h n Oo];grind
def sm_add n f g:sm n (λi=>f i+g i)=sm n f+sm n g:=by
 induction n with
 |zero=>show(0:Rat)=0+0;grind
 |succ n ih=>
  show sm n (λi=>f i+g i)+(f n+g n)=(sm n f+f n)+(sm n g+g n);rw[ih];grind
def sm_mul n{c f}:sm n (λi=>c*f i)=c*sm n f:=by
 induction n with
 |zero=>show(0:Rat)=c*0;grind
 |succ n ih=>
  show sm n (λi=>c*f i)+c*f n=c*(sm n f+f n);rw[ih];grind
def sm_single{n k f}(K:k<n)(h:∀i,i<n->i≠k->f i=0):sm n f=f k:=by
 induction n with
 |zero=>omega
 |succ n ih=>
  show sm n f+f n=f k;by_cases e:k=n;subst e;rw[sm_zero (λi hi=>h i Oo Oo)];grind;rw[ih Oo (λi hi I=>h i Oo I),h n Oo Oo];grind
def qIm{n k l f}(I:k<l)(hl:l<n)(h:∀i,i<n->i≠k->i≠l->f i=0):sm n f=f k+f l:=by
 induction n with
 |zero=>omega
 |succ n ih=>
  show sm n f+f n=f k+f l;by_cases e:l=n;subst e;rw[sm_single (k:=k) I (λi hi K=>h i Oo K Oo)];rw[ih Oo (λi hi a b=>h i Oo a b),h n Oo Oo Oo];grind
def jw n m(f:NQ):sm n (λi=>sm m (λj=>f i j))=sm m (λj=>sm n (λi=>f i j)):=by
 induction n with
 |zero=>exact(sm_zero (λ_ _=>rfl)).symm
 |succ n ih=>
  show sm n (λi=>sm m (λj=>f i j))+sm m (λj=>f n j)=sm m (λj=>sm n (λi=>f i j)+f n j);rw[ih,sm_add]
def zx{n f}(h:∀i,i<n->0<=f i):0<=sm n f:=by
 induction n with
 |zero=>show(0:Rat)<=0;grind
 |succ n ih=>
  show 0<=sm n f+f n;grind
def qDN{n f g}(h:∀i,i<n->f i<=g i):sm n f<=sm n g:=by
 induction n with
 |zero=>show(0:Rat)<=0;grind
 |succ n ih=>
  show sm n f+f n<=sm n g+g n;grind
def QS{n f}(h:∀i,i<n->0<=f i)(I:sm n f<=0):∀i,i<n->f i=0:=by
 induction n with
 |zero=>intro i hi;omega
 |succ n ih=>
  intro i hi;have M:=zx (λi hi=>h i Oo:∀i,i<n->0<=f i);have K:sm n f+f n<=0:=I;by_cases e:i=n;subst e;grind;exact ih (λi hi=>h i Oo) Rr i Oo
def skip(j a:Nat):Nat:=if a<j then a else a+1
def zG(j k:Nat):Nat:=if k<j then k else k-1
def sg(j:Nat):Rat:=if j % 2=0 then 1 else -1
def minor(j:Nat)(M:NQ):NQ:=λa b=>M (skip j a) (b+1)
def det:Nat->(NQ)->Rat
 |0,_=>1
 |m+1,M=>sm (m+1) (λj=>sg j*M j 0*det m (minor j M))
def upd(M:NQ)(k:Nat)(v:NR):NQ:=λj i=>if j=k then v i else M j i
def ki{m}:∀{M N:NQ},(∀j,j<m->∀i,i<m->M j i=N j i)->det m M=det m N:=by
 induction m with
 |zero=>intro M N _;rfl
 |succ m ih=>
  intro M N h;refine sm_congr (λj I=>?_);rw[h j I 0 Oo,ih (M:=minor j M) (N:=minor j N) (λa K b hb=>?_)];exact h _ (by unfold skip;split <;> omega) _ Oo
def uW M k v:minor k (upd M k v)=minor k M:=by
 funext a b;show(if skip k a=k then v (b+1) else M (skip k a) (b+1))=M (skip k a) (b+1);rw[fF];unfold skip;split <;> omega
def kD{M j k v}(h:j≠k):minor j (upd M k v)=upd (minor j M) (zG j k) (λi=>v (i+1)):=by
 funext a b;show(if skip j a=k then v (b+1) else M (skip j a) (b+1))=(if a=zG j k then v (b+1) else M (skip j a) (b+1));by_cases e:skip j a=k;rw[fE e,fE];unfold zG skip at *;split at e <;> split <;> omega;rw[fF e,fF];intro I;apply e;unfold zG skip at *;split at I <;> split <;> omega
def QT{m}:∀M k a b u v,k<m->
 det m (upd M k (λi=>a*u i+b*v i))=a*det m (upd M k u)+b*det m (upd M k v):=by
 induction m with
 |zero=>intro M k a b u v h;omega
 |succ m ih=>
  intro M k a b u v K;show sm (m+1) _=a*sm (m+1) _+b*sm (m+1) _;rw[<-sm_mul,<-sm_mul,<-sm_add];refine sm_congr (λj O=>?_);by_cases e:j=k;subst e;rw[uW,uW,uW];have I:∀w:NR,upd M j w j 0=w 0:=λw=>fE rfl;rw[I,I,I];grind;rw[kD e,kD e,kD e];have I:∀w:NR,upd M k w j 0=M j 0:=λw=>fF e;rw[I,I,I];rw[ih (minor j M) (zG j k) a b (λi=>u (i+1)) (λi=>v (i+1)) (by unfold zG;split <;> omega)];grind
def qBq j k(h:j≠k):skip j (zG j k)=k:=by
 by_cases e:k<j;rw[show zG j k=k from fE e];exact fE e;rw[show zG j k=k-1 from fF e,show skip j (k-1)=k-1+1 from fF Oo];omega
def Kj j k(I:j≠k)(K:j≠k+1):skip j (zG j k+1)=k+1:=by
 by_cases e:k<j;rw[show zG j k=k from fE e];exact fE Oo;rw[show zG j k=k-1 from fF e,show skip j (k-1+1)=k-1+1+1 from fF Oo];omega
def qHC k:sg (k+1)=- sg k:=by
 unfold sg;by_cases h:k % 2=0;rw[fE h,fF Oo];rw[fF h,fE Oo];grind
def qCd{m}:∀M k,k+1<m->(∀i,M k i=M (k+1) i)->det m M=0:=by
 induction m with
 |zero=>intro M k h;omega
 |succ m ih=>
  intro M k O h;show sm (m+1) _=0;rw[qIm (k:=k) (l:=k+1) Oo Oo]
  .have e:minor k M=minor (k+1) M:=by
    funext a b;show M (skip k a) (b+1)=M (skip (k+1) a) (b+1);by_cases I:a<k;rw[show skip k a=a by unfold skip;rw[fE I],show skip (k+1) a=a by unfold skip;rw[fE Oo]];by_cases K:a=k;subst K;rw[show skip a a=a+1 by unfold skip;rw[fF Oo],show skip (a+1) a=a by unfold skip;rw[fE Oo],h];rw[show skip k a=a+1 by unfold skip;rw[fF I],show skip (k+1) a=a+1 by unfold skip;rw[fF Oo]]
   rw[e,qHC,h 0];grind
  intro j V I K;rw[ih (minor j M) (zG j k) (by unfold zG;split <;> omega) (λi=>?_)];grind;show M (skip j (zG j k)) (i+1)=M (skip j (zG j k+1)) (i+1);rw[qBq j k I,Kj j k I K,h]
def yC{M}k l u v(h:k≠l):upd (upd M k u) l v=upd (upd M l v) k u:=by
 funext j i;unfold upd;by_cases e:j=k;subst e;rw[fF h,fE rfl,fE rfl];by_cases I:j=l;subst I;rw[fE rfl,fF e,fE rfl];rw[fF I,fF e,fF e,fF I]
def X6 M k:upd M k (M k)=M:=by
 funext j i;unfold upd;by_cases e:j=k;subst e;rw[fE rfl];rw[fF e]
def qFc{m M k u v}(h:k+1<m):
 det m (upd (upd M k u) (k+1) v)=- det m (upd (upd M k v) (k+1) u):=by
 have key:∀a b:NR,(∀i,a i=b i)->det m (upd (upd M k a) (k+1) b)=0:=by
  intro a b hab;refine qCd _ k h (λi=>?_);unfold upd;rw[fF Oo,fE rfl,fE rfl,hab]
 have I:=key _ (λi=>1*u i+1*v i) (λ_=>rfl);rw[QT _ (k+1) 1 1 u v h]at I;rw[yC _ _ _ _ Oo,yC _ _ (λi=>1*u i+1*v i) v Oo]at I;rw[QT _ k 1 1 u v Oo,QT _ k 1 1 u v Oo]at I;rw[yC (k+1) k _ _ Oo,yC (k+1) k _ _ Oo,yC (k+1) k _ _ Oo,yC (k+1) k _ _ Oo]at I;rw[key u u (λ_=>rfl),key v v (λ_=>rfl)]at I;grind
def qCe{m}:∀g M p q,q-p=g->p<q->q<m->(∀i,M p i=M q i)->det m M=0:=by
 intro g;induction g with
 |zero=>intro M p q K O;omega
 |succ g ih=>
  intro M p q K O I h;by_cases e:q=p+1;subst e;exact qCd M p I h;obtain⟨r,rfl⟩:∃r,q=r+1:=⟨q-1,Oo⟩;have V:M=upd (upd M r (M r)) (r+1) (M (r+1)):=by rw[X6,X6]
  rw[V,qFc I,ih _ p r Oo Oo Oo];grind;intro i;unfold upd;rw[fF Oo,fF Oo,fF Oo,fE rfl,h]
def qBr{m}M p q(I:p<m)(hq:q<m)(K:p≠q)(h:∀i,M p i=M q i):det m M=0:=by
 by_cases e:p<q;exact qCe _ M p q rfl e hq h;exact qCe _ M q p rfl Oo I (λi=>(h i).symm)
def ZW{m}M k(I:k<m):det m (upd M k (λ_=>0))=0:=by
 have h:=QT M k 0 0 (λ_=>0) (λ_=>0) I;have e:(λ(i:Nat)=>(0:Rat)*(λ_=>(0:Rat)) i+0*(λ_=>(0:Rat)) i)=λ_=>(0:Rat):=by funext i;grind
 rw[e]at h;grind
def qHD{m}M i(hi:i<m)(z:NR)(V:NQ)n:
 det m (upd M i (λr=>sm n (λk=>z k*V k r)))=sm n (λk=>z k*det m (upd M i (V k))):=by
 induction n with
 |zero=>exact ZW M i hi
 |succ n ih=>
  show det m (upd M i (λr=>sm n (λk=>z k*V k r)+z n*V n r))=sm n (λk=>z k*det m (upd M i (V k)))+z n*det m (upd M i (V n));rw[<-ih];have h:=QT M i 1 (z n) (λr=>sm n (λk=>z k*V k r)) (V n) hi;have e:(λr=>1*sm n (λk=>z k*V k r)+z n*V n r)=(λr=>sm n (λk=>z k*V k r)+z n*V n r):=by funext r;grind
  rw[e]at h;rw[h];grind
def Kk{m}M i(hi:i<m)(z v:NR)(h:∀r,r<m->v r=sm m (λk=>z k*M k r)):
 det m (upd M i v)=z i*det m M:=by
 have K:det m (upd M i v)=det m (upd M i (λr=>sm m (λk=>z k*M k r))):=by
  refine ki (λj _ r O=>?_);unfold upd;split;exact h r O;rfl
 rw[K,qHD M i hi];rw[sm_single (k:=i) hi];rw[X6];intro k V I;rw[qBr (upd M i (M k)) i k hi V Oo];grind;intro r;unfold upd;rw[fE rfl,fF I]
def Ur{m M}(O:det m M≠0)(z:NR)(h:∀r,r<m->sm m (λk=>z k*M k r)=0):∀i,i<m->z i=0:=by
 intro i hi;have I:=Kk M i hi z _ (λr K=>(h r K).symm);rw[ZW M i hi]at I;grind
def fac:NN
 |0=>1
 |n+1=>(n+1)*fac n
def Whole(B:Nat)(q:Rat):Prop:=∃z:Int,q=(z:Rat)/\z.natAbs<=B
def Whole.mono{B C q}(h:Whole B q)(I:B<=C):Whole C q:=by
 have⟨z,K,M⟩:=h;exact⟨z,K,Oo⟩
def Whole.add{B C p q}(h:Whole B p)(k:Whole C q):Whole (B+C) (p+q):=by
 obtain⟨x,rfl,I⟩:=h;obtain⟨y,rfl,K⟩:=k;exact⟨x+y,Ss,Oo⟩
def Whole.mul{B C p q}(h:Whole B p)(k:Whole C q):Whole (B*C) (p*q):=by
 obtain⟨x,rfl,I⟩:=h;obtain⟨y,rfl,K⟩:=k;exact⟨x*y,Ss,by rw[nO];exact mU I K⟩
def Whole.neg{B p}(h:Whole B p):Whole B (-p):=by
 obtain⟨x,rfl,I⟩:=h;exact⟨-x,Ss,Oo⟩
def whole_sm{B f n}(h:∀i,i<n->Whole B (f i)):Whole (n*B) (sm n f):=by
 induction n with
 |zero=>exact⟨0,rfl,Ss⟩
 |succ n ih=>
  have:=(ih (λi hi=>h i Oo)).add (h n Oo);rw[Nat.succ_mul];exact this
def qFd j:Whole 1 (sg j):=by
 unfold sg;split;exact⟨1,rfl,Dd⟩;exact⟨-1,rfl,Dd⟩
def Us{m}:∀M,(∀j,j<m->∀i,i<m->Whole 1 (M j i))->Whole (fac m) (det m M):=by
 induction m with
 |zero=>intro M _;exact⟨1,rfl,Dd⟩
 |succ m ih=>
  intro M h;refine whole_sm (λj I=>?_);have O:=((qFd j).mul (h j I 0 Oo)).mul (ih (minor j M) (λa V b hb=>h _ (by unfold skip;split <;> omega) _ Oo));simpa using O
end Go.Proofs.YtfpjpngjikdaoaaGreat.Cov
namespace Go.Proofs.YtfpjpngjikdaoaaGreat.Cov
structure Inv(m n:Nat)(A:NQ)(T:NQ)(B:NN):Prop where
 lt:∀i,i<m->B i<n
 unit:∀i,i<m->∀k,k<m->T i (B k)=if i=k then 1 else 0
 col:∀j,j<=n->∀r,r<m->A j r=sm m (λi=>T i j*A (B i) r)
 dne:det m (λi=>A (B i))≠0
def Inv.inj{m n A T B}(h:Inv m n A T B){i k}(hi:i<m)(O:k<m)(e:B i=B k):i=k:=by
 have I:=h.unit i hi k O;have K:=h.unit i hi i hi;rw[fE rfl]at K;rw[<-e,K]at I;by_cases M:i=k;exact M;rw[fF M]at I;grind
def pivT(T:NQ)(r c:Nat):NQ:=λi j=>if i=r then T r j / T r c else T i j-T i c*(T r j / T r c)
def pivB(B:NN)(r c:Nat):NN:=λi=>if i=r then c else B i
def vU{m r}(K:r<m)f:sm m f=f r+sm m (λi=>if i=r then 0 else f i):=by
 have M:sm m f=sm m (λi=>(if i=r then f r else 0)+(if i=r then 0 else f i)):=by
  refine sm_congr (λi _=>?_);by_cases e:i=r;subst e;rw[fE rfl,fE rfl];grind;rw[fF e,fF e];grind
 rw[M,sm_add,sm_single (k:=r) K];rw[fE rfl];intro i _ I;rw[fF I]
def Inv.pivot{m n A T B}(h:Inv m n A T B){r c}(M:r<m)(hc:c<n)(hp:T r c≠0):
 Inv m n A (pivT T r c) (pivB B r c):=by
 refine⟨?_,?_,?_,?_⟩
 .intro i hi;unfold pivB;split;exact hc;exact h.lt i hi
 .intro i hi k V;unfold pivT pivB;by_cases ek:k=r
  .subst ek;rw[fE rfl];by_cases I:i=k;subst I;rw[fE rfl,fE rfl];grind;rw[fF I,fF I];grind
  rw[fF ek];have K:=h.unit r M k V;rw[fF Oo]at K;rw[K];by_cases I:i=r;subst I;rw[fE rfl,fF Oo];grind;rw[fF I,h.unit i hi k V];grind
 .intro j hj s hs;have K:=h.col j hj s hs;have h2:=h.col c Oo s hs;rw[vU M]at K h2;rw[vU M];have O:sm m (λi=>if i=r then 0 else pivT T r c i j*A (pivB B r c i) s)=sm m (λi=>if i=r then 0 else T i j*A (B i) s)-(T r j / T r c)*sm m (λi=>if i=r then 0 else T i c*A (B i) s):=by
   have e2:(λi=>if i=r then 0 else pivT T r c i j*A (pivB B r c i) s)=λi=>(if i=r then 0 else T i j*A (B i) s)+(-(T r j / T r c))*(if i=r then 0 else T i c*A (B i) s):=by
    funext i;unfold pivT pivB;by_cases I:i=r;rw[fE I,fE I,fE I];grind;rw[fF I,fF I,fF I,fF I,fF I];grind
   rw[e2,sm_add,sm_mul];grind
  rw[O];have e3:pivT T r c r j=T r j / T r c:=fE rfl;have e4:pivB B r c r=c:=fE rfl;rw[e3,e4,K,h2];grind
 have O:det m (λi=>A (pivB B r c i))=det m (upd (λi=>A (B i)) r (A c)):=by
  refine ki (λj _ i _=>?_);unfold upd pivB;split <;> rfl
 rw[O,Kk (λi=>A (B i)) r M (λi=>T i c) (A c) (λs hs=>h.col c Oo s hs)];have:=h.dne;grind
def Inv.entry{m n A T B}(h:Inv m n A T B){i j}(hi:i<m)(I:j<=n):
 det m (upd (λi=>A (B i)) i (A j))=T i j*det m (λi=>A (B i)):=
 Kk _ i hi _ _ (λs hs=>h.col j I s hs)
def Inv.small{m n A T B}(h:Inv m n A T B)(M:∀j,j<=n->∀r,r<m->Whole 1 (A j r)):
 ∃D:Int,D≠0/\D.natAbs<=fac m/\∀i,i<m->∀j,j<=n->Whole (fac m) (T i j*D):=by
 have hB:∀j,j<m->∀i,i<m->Whole 1 ((λi=>A (B i)) j i):=λj I i hi=>M _ (pP (h.lt j I)) i hi;have⟨D,O,K⟩:=Us _ hB;refine⟨D,?_,K,?_⟩;intro e;apply h.dne;rw[O,e];rfl;intro i hi j I;rw[<-O,<-h.entry hi I];refine Us _ (λa V b hb=>?_);unfold upd;split;exact M j I b hb;exact hB a V b hb
def Sol(m n:Nat)(A:NQ)(x:NR):Prop:=∀r,r<m->sm n (λj=>x j*A j r)=A n r
def Hom(m n:Nat)(A:NQ)(x:NR):Prop:=∀r,r<m->sm n (λj=>x j*A j r)=0
def Inv.comb{m n A T B}(h:Inv m n A T B)(x:NR)r(I:r<m):
 sm n (λj=>x j*A j r)=sm m (λi=>sm n (λj=>T i j*x j)*A (B i) r):=by
 have K:sm n (λj=>x j*A j r)=sm n (λj=>sm m (λi=>T i j*x j*A (B i) r)):=by
  refine sm_congr (λj O=>?_);rw[h.col j Oo r I,<-sm_mul];exact sm_congr (λi _=>Rr)
 rw[K,jw];refine sm_congr (λi _=>?_);have M:(λj=>T i j*x j*A (B i) r)=λj=>A (B i) r*(T i j*x j):=by funext j;grind
 rw[M,sm_mul];grind
def Inv.hom_rows{m n A T B}(h:Inv m n A T B){x}(K:Hom m n A x):
 ∀i,i<m->sm n (λj=>T i j*x j)=0:=
 Ur h.dne _ (λr I=>by rw[<-h.comb x r I];exact K r I)
def Inv.sol_rows{m n A T B}(h:Inv m n A T B){x}(M:Sol m n A x):
 ∀i,i<m->sm n (λj=>T i j*x j)=T i n:=by
 have key:=Ur h.dne (λi=>sm n (λj=>T i j*x j)-T i n) (λr I=>by
  have K:=h.comb x r I;rw[M r I,h.col n (nR _) r I]at K;have O:(λk=>(sm n (λj=>T k j*x j)-T k n)*A (B k) r)=λk=>sm n (λj=>T k j*x j)*A (B k) r+(-1)*(T k n*A (B k) r):=by funext k;grind
  rw[O,sm_add,sm_mul,<-K];grind)
 intro i hi;have:=key i hi;grind
def red(m:Nat)(cost:NR)(T:NQ)(B:NN):NR:=λj=>cost j-sm m (λi=>cost (B i)*T i j)
def qCf{m n}cost T B(x:NR)(t:NR)(I:∀i,i<m->sm n (λj=>T i j*x j)=t i):
 sm n (λj=>red m cost T B j*x j)=sm n (λj=>cost j*x j)-sm m (λi=>cost (B i)*t i):=by
 have K:(λj=>red m cost T B j*x j)=λj=>cost j*x j+(-1)*sm m (λi=>cost (B i)*(T i j*x j)):=by
  funext j;unfold red;have:sm m (λi=>cost (B i)*(T i j*x j))=x j*sm m (λi=>cost (B i)*T i j):=by
   rw[<-sm_mul];exact sm_congr (λi _=>Rr)
  rw[this];grind
 rw[K,sm_add,sm_mul,jw];have M:sm m (λi=>sm n (λj=>cost (B i)*(T i j*x j)))=sm m (λi=>cost (B i)*t i):=by
  refine sm_congr (λi hi=>?_);rw[sm_mul,I i hi]
 rw[M];grind
def Inv.cost_hom{m n A T B}(h:Inv m n A T B)cost{x}(I:Hom m n A x):
 sm n (λj=>cost j*x j)=sm n (λj=>red m cost T B j*x j):=by
 have e:sm m (λi=>cost (B i)*(λ_=>(0:Rat)) i)=0:=sm_zero (λi _=>Rr);rw[qCf cost T B x (λ_=>0) (h.hom_rows I),e];grind
def Inv.cost_sol{m n A T B}(h:Inv m n A T B)cost{x}(I:Sol m n A x):
 sm n (λj=>cost j*x j)=sm n (λj=>red m cost T B j*x j)+sm m (λi=>cost (B i)*T i n):=by
 rw[qCf cost T B x (λi=>T i n) (h.sol_rows I)];grind
def Inv.red_basic{m n A T B}(h:Inv m n A T B)cost{k}(I:k<m):red m cost T B (B k)=0:=by
 unfold red;rw[sm_single (k:=k) I];rw[h.unit k I k I,fE rfl];grind;intro i hi K;rw[h.unit i hi k I,fF K];grind
def red_pivot{m n A T B}(h:Inv m n A T B)cost{r c}(K:r<m)(hp:T r c≠0)j:
 red m cost (pivT T r c) (pivB B r c) j=red m cost T B j-red m cost T B c*(T r j / T r c):=by
 unfold red;rw[vU K,vU K (λi=>cost (B i)*T i j),vU K (λi=>cost (B i)*T i c)];have M:sm m (λi=>if i=r then 0 else cost (pivB B r c i)*pivT T r c i j)=sm m (λi=>if i=r then 0 else cost (B i)*T i j)-(T r j / T r c)*sm m (λi=>if i=r then 0 else cost (B i)*T i c):=by
  have O:(λi=>if i=r then 0 else cost (pivB B r c i)*pivT T r c i j)=λi=>(if i=r then 0 else cost (B i)*T i j)+(-(T r j / T r c))*(if i=r then 0 else cost (B i)*T i c):=by
   funext i;unfold pivT pivB;by_cases I:i=r;rw[fE I,fE I,fE I];grind;rw[fF I,fF I,fF I,fF I,fF I];grind
  rw[O,sm_add,sm_mul];grind
 rw[M];have V:pivT T r c r j=T r j / T r c:=fE rfl;have e4:pivB B r c r=c:=fE rfl;rw[V,e4];have:=h.dne;grind
def val(m:Nat)(t:NR)(B:NN)(j:Nat):Rat:=sm m (λi=>if B i=j then t i else 0)
def Inv.val_basic{m n A T B}(h:Inv m n A T B)t{k}(K:k<m):val m t B (B k)=t k:=by
 unfold val;rw[sm_single (k:=k) K];rw[fE rfl];intro i hi I;rw[fF (λe=>I (h.inj hi K e))]
def val_not{m t B j}(I:∀i,i<m->B i≠j):val m t B j=0:=
 sm_zero (λi hi=>fF (I i hi))
def Yx{m n}t B(hB:∀i,i<m->B i<n)(f:NR):
 sm n (λj=>val m t B j*f j)=sm m (λi=>t i*f (B i)):=by
 have K:sm n (λj=>val m t B j*f j)=sm n (λj=>sm m (λi=>if B i=j then t i*f (B i) else 0)):=by
  refine sm_congr (λj _=>?_);unfold val;have:f j*sm m (λi=>if B i=j then t i else 0)=sm m (λi=>if B i=j then t i*f (B i) else 0):=by
   rw[<-sm_mul];refine sm_congr (λi _=>?_);by_cases e:B i=j;rw[fE e,fE e,e];grind;rw[fF e,fF e];grind
  rw[<-this];grind
 rw[K,jw];refine sm_congr (λi hi=>?_);rw[sm_single (k:=B i) (hB i hi)];rw[fE rfl];intro j _ I;rw[fF (λe=>I e.symm)]
def Inv.sol_basic{m n A T B}(h:Inv m n A T B):Sol m n A (val m (λi=>T i n) B):=by
 intro r I;rw[Yx (λi=>T i n) B h.lt (λj=>A j r),h.col n (nR _) r I]
def ray(m:Nat)(T:NQ)(B:NN)(s:Nat)(j:Nat):Rat:=(if j=s then 1 else 0)+val m (λi=>- T i s) B j
def Inv.hom_ray{m n A T B}(h:Inv m n A T B){s}(hs:s<n):Hom m n A (ray m T B s):=by
 intro r K;have M:(λj=>ray m T B s j*A j r)=λj=>(if j=s then A s r else 0)+val m (λi=>- T i s) B j*A j r:=by
  funext j;unfold ray;by_cases e:j=s;subst e;rw[fE rfl,fE rfl];grind;rw[fF e,fF e];grind
 rw[M,sm_add,Yx _ B h.lt (λj=>A j r),sm_single (k:=s) hs];rw[fE rfl,h.col s Oo r K,<-sm_add];exact sm_zero (λi _=>Rr);intro j _ I;rw[fF I]
def Inv.ray_cost{m n A T B}(h:Inv m n A T B)cost{s}(hs:s<n):
 sm n (λj=>cost j*ray m T B s j)=red m cost T B s:=by
 rw[h.cost_hom cost (h.hom_ray hs)];have K:(λj=>red m cost T B j*ray m T B s j)=λj=>(if j=s then red m cost T B s else 0)+val m (λi=>- T i s) B j*red m cost T B j:=by
  funext j;unfold ray;by_cases e:j=s;subst e;rw[fE rfl,fE rfl];grind;rw[fF e,fF e];grind
 rw[K,sm_add,Yx _ B h.lt,sm_single (k:=s) hs];rw[fE rfl,sm_zero (λi hi=>by rw[h.red_basic cost hi];grind)];grind;intro j _ I;rw[fF I]
end Go.Proofs.YtfpjpngjikdaoaaGreat.Cov
namespace Go.Proofs.YtfpjpngjikdaoaaGreat.Cov
structure Run(m n:Nat)(A:NQ)(cost:NR)(bar:NB)(N:Nat)(T:Nat->NQ)(B:Nat->NN)(r c:NN):Prop where
 inv:∀k,k<=N->Inv m n A (T k) (B k)
 feas:∀k,k<=N->∀i,i<m->0<=T k i n
 rlt:∀k,k<N->r k<m
 clt:∀k,k<N->c k<n
 unbar:∀k,k<N->bar (c k)=nF
 neg:∀k,k<N->red m cost (T k) (B k) (c k)<0
 least:∀k,k<N->∀j,j<c k->bar j=nF->0<=red m cost (T k) (B k) j
 pos:∀k,k<N->0<T k (r k) (c k)
 tie:∀k,k<N->∀i,i<m->0<T k i (c k)->T k i n / T k i (c k)=T k (r k) n / T k (r k) (c k)->B k (r k)<=B k i
 nextT:∀k,k<N->T (k+1)=pivT (T k) (r k) (c k)
 nextB:∀k,k<N->B (k+1)=pivB (B k) (r k) (c k)
def InB(m:Nat)(B:NN)(j:Nat):Prop:=∃i,i<m/\B i=j
def obj(m n:Nat)(cost:NR)(T:NQ)(B:NN):Rat:=sm m (λi=>cost (B i)*T i n)
def qEL{m n A T B}(h:Inv m n A T B){cost r c}(K:r<m)(M:T r c≠0):
 obj m n cost (pivT T r c) (pivB B r c)=obj m n cost T B+red m cost T B c*(T r n / T r c):=by
 have O:=red_pivot h cost K M n;have e:∀(I:NQ) (B':NN),red m cost I B' n=cost n-obj m n cost I B':=λ_ _=>rfl;rw[e,e]at O;grind
def Vn{m n A T B}(h:Inv m n A T B)cost:
 obj m n cost T B=sm n (λj=>val m (λi=>T i n) B j*cost j):=by
 rw[Yx _ B h.lt];exact sm_congr (λi _=>Rr)
def Ql{a b:Rat}(I:0<=a)(hb:0<b):0<=a / b:=by
 rw[pG];exact iG I (rI (Rat.inv_pos.2 hb))
def jR{a b:Rat}(I:a<=0)(hb:0<=b):a*b<=0:=by
 have:=iG (show 0<=-a by grind) hb;grind
def jg{a b:Rat}(I:a<=0)(hb:b<=0):0<=a*b:=by
 have:=iG (show 0<=-a by grind) (show 0<=-b by grind);grind
section
variable {m n:Nat} {A:NQ} {cost:NR} {bar:NB} {N:Nat} {T:Nat->NQ} {B:Nat->NN} {r c:NN}
def Run.obj_step(h:Run m n A cost bar N T B r c){k}(I:k<N):
 obj m n cost (T (k+1)) (B (k+1))=obj m n cost (T k) (B k)+red m cost (T k) (B k) (c k)*(T k (r k) n / T k (r k) (c k)):=by
 rw[h.nextT k I,h.nextB k I];have:=h.pos k I;exact qEL (h.inv k Oo) (h.rlt k I) Rr
def Run.ratio_nonneg(h:Run m n A cost bar N T B r c){k}(I:k<N):0<=T k (r k) n / T k (r k) (c k):=
 Ql (h.feas k Oo _ (h.rlt k I)) (h.pos k I)
def Run.obj_le(h:Run m n A cost bar N T B r c)a:∀d,a+d<=N->obj m n cost (T (a+d)) (B (a+d))<=obj m n cost (T a) (B a)
 |0,_=>by rw[Nat.add_zero];grind
 |d+1,hd=>by
  have K:=Run.obj_le h a d Oo;have I:=h.obj_step (k:=a+d) Oo;have M:=jR (rI (h.neg (a+d) Oo)) (h.ratio_nonneg (k:=a+d) Oo);rw[show a+(d+1)=a+d+1 by omega,I];grind
def qFb{M O I K}(V:Inv m n A M I)(h2:Inv m n A O K)(hs:∀j,InB m K j->InB m I j):
 ∀j,j<n->val m (λi=>M i n) I j=val m (λi=>O i n) K j:=by
 have hd:Hom m n A (λj=>val m (λi=>M i n) I j+(-1)*val m (λi=>O i n) K j):=by
  intro q hq;have e:(λj=>(val m (λi=>M i n) I j+(-1)*val m (λi=>O i n) K j)*A j q)=λj=>val m (λi=>M i n) I j*A j q+(-1)*(val m (λi=>O i n) K j*A j q):=by funext j;grind
  rw[e,sm_add,sm_mul,V.sol_basic q hq,h2.sol_basic q hq];grind
 have hz:∀j,¬InB m I j->val m (λi=>M i n) I j=0/\val m (λi=>O i n) K j=0:=by
  intro j hj;exact⟨val_not (λi hi e=>hj ⟨i,hi,e⟩),val_not (λi hi e=>hj (hs j ⟨i,hi,e⟩))⟩
 intro j hj;by_cases hb:InB m I j
 .obtain⟨i,hi,rfl⟩:=hb;have h3:=(V.hom_rows hd) i hi;rw[sm_single (k:=I i) (V.lt i hi)]at h3;rw[V.unit i hi i hi,fE rfl]at h3;grind;intro j' a5 a3;by_cases hb':InB m I j';obtain⟨i',a4,rfl⟩:=hb';rw[V.unit i hi i' a4,fF (λe=>a3 (by rw[e]))];grind;have⟨z1,z2⟩:=hz _ hb';rw[z1,z2];grind
 have⟨z1,z2⟩:=hz j hb;rw[z1,z2]
def Run.leave(h:Run m n A cost bar N T B r c)j a:∀d,a+d<=N->InB m (B a) j->¬InB m (B (a+d)) j->∃k,a<=k/\k<a+d/\B k (r k)=j
 |0,_,h1,h2=>absurd h1 h2
 |d+1,hd,h1,h2=>by
  by_cases I:InB m (B (a+d)) j
  .refine⟨a+d,Oo,Oo,?_⟩;have⟨i,hi,K⟩:=I;by_cases e:i=r (a+d);rw[<-e];exact K;exfalso;apply h2;refine⟨i,hi,?_⟩;rw[show a+(d+1)=a+d+1 by omega,h.nextB (a+d) Oo];unfold pivB;rw[fF e];exact K
  have⟨k,M,V,O⟩:=Run.leave h j a d Oo h1 I;exact⟨k,M,Oo,O⟩
def Run.enter(h:Run m n A cost bar N T B r c)j a:∀d,a+d<=N->¬InB m (B a) j->InB m (B (a+d)) j->∃k,a<=k/\k<a+d/\c k=j
 |0,_,h1,h2=>absurd h2 h1
 |d+1,hd,h1,h2=>by
  by_cases K:InB m (B (a+d)) j;have⟨k,M,V,O⟩:=Run.enter h j a d Oo h1 K;exact⟨k,M,Oo,O⟩;refine⟨a+d,Oo,Oo,?_⟩;have⟨i,hi,I⟩:=h2;rw[show a+(d+1)=a+d+1 by omega,h.nextB (a+d) Oo]at I;unfold pivB at I;by_cases e:i=r (a+d);rw[fE e]at I;exact I;rw[fF e]at I;exact absurd ⟨i,hi,I⟩ K
def Ke(c:NN)p:∀d,∃l,p<=l/\l<p+d+1/\∀k,p<=k->k<p+d+1->c k<=c l
 |0=>⟨p,Oo,Oo,λk M V=>by rw[show k=p by omega];exact nR _⟩
 |d+1=>by
  have⟨l,M,V,O⟩:=Ke c p d;by_cases e:c l<=c (p+d+1)
  .refine⟨p+d+1,Oo,Oo,λk I h5=>?_⟩;by_cases K:k=p+d+1;rw[K];exact nR _;exact bM (O k I Oo) e
  refine⟨l,M,Oo,λk I h5=>?_⟩;by_cases K:k=p+d+1;rw[K];omega;exact O k I Oo
def Run.no_cycle(h:Run m n A cost bar N T B r c)p d(hq:p+d+1<=N)(same:∀j,InB m (B p) j↔InB m (B (p+d+1)) j):False:=by
 have d4:obj m n cost (T (p+d+1)) (B (p+d+1))=obj m n cost (T p) (B p):=by
  rw[Vn (h.inv _ hq) cost,Vn (h.inv p Oo) cost];refine sm_congr (λj hj=>?_);rw[qFb (h.inv p Oo) (h.inv _ hq) (λj hj=>(same j).2 hj) j hj]
 have hzero:∀k,p<=k->k<p+d+1->T k (r k) n=0:=by
  intro k K h2;have e1:=h.obj_le p (k-p) Oo;have e2:=h.obj_le (k+1) (p+d+1-(k+1)) Oo;rw[show p+(k-p)=k by omega]at e1;rw[show k+1+(p+d+1-(k+1))=p+d+1 by omega]at e2;have e3:=h.obj_step (k:=k) Oo;have e5:=h.neg k Oo;have e6:=h.pos k Oo;have e7:red m cost (T k) (B k) (c k)*(T k (r k) n / T k (r k) (c k))=0:=by
   have:=jR (rI e5) (h.ratio_nonneg (k:=k) Oo);grind
  have e8:T k (r k) n / T k (r k) (c k)=0:=by
   rcases pK.1 e7 with e|e;grind;exact e
  grind
 have b7:∀e,e<=d+1->∀j,val m (λi=>T (p+e) i n) (B (p+e)) j=val m (λi=>T p i n) (B p) j:=by
  intro e;induction e with
  |zero=>intro _ j;rfl
  |succ e ih=>
   intro he j;rw[<-ih Oo j];have hz:=hzero (p+e) Oo Oo;refine sm_congr (λi hi=>?_);rw[show p+(e+1)=p+e+1 by omega,h.nextT (p+e) Oo,h.nextB (p+e) Oo];unfold pivT pivB;dsimp only;rw[hz];by_cases ei:i=r (p+e);rw[fE ei,fE ei,ei,hz];have:(0:Rat) / T (p+e) (r (p+e)) (c (p+e))=0:=Rr;rw[this];split <;> split <;> rfl;rw[fF ei,fF ei];split;grind;rfl
 have V:∀k,p<=k->k<=p+d+1->∀j,val m (λi=>T k i n) (B k) j=val m (λi=>T p i n) (B p) j:=by
  intro k K h2 j;have:=b7 (k-p) Oo j;rwa[show p+(k-p)=k by omega]at this
 have⟨l,d0,d6,a4⟩:=Ke c p d;have I:∀k,k<N->¬InB m (B k) (c k):=by
  intro k hk ⟨i,hi,e⟩;have K:=h.neg k hk;rw[<-e,(h.inv k Oo).red_basic cost hi]at K;grind
 have d1:InB m (B (l+1)) (c l):=by
  refine⟨r l,h.rlt l Oo,?_⟩;rw[h.nextB l Oo];exact fE rfl
 obtain⟨k,a7,b8,a8⟩:∃k,p<=k/\k<p+d+1/\B k (r k)=c l:=by
  by_cases hc:InB m (B (p+d+1)) (c l)
  .have K:=(same (c l)).2 hc;have h2:=I l Oo;rw[show l=p+(l-p)by omega]at h2;have a9:¬InB m (B (p+(l-p))) (c l):=by rw[show p+(l-p)=l by omega];exact I l Oo
   have⟨k,a,b,e⟩:=h.leave _ p _ Oo K a9;exact⟨k,a,Oo,e⟩
  have a9:¬InB m (B (l+1+(p+d+1-(l+1)))) (c l):=by rw[show l+1+(p+d+1-(l+1))=p+d+1 by omega];exact hc
  have⟨k,a,b,e⟩:=h.leave _ _ _ Oo d1 a9;exact⟨k,Oo,Oo,e⟩
 have a3:=h.inv k Oo;have b9:=h.inv l Oo;have hst:c k<c l:=by
  have K:=a4 k a7 b8;by_cases e:c k=c l;exfalso;apply I k Oo;exact⟨r k,h.rlt k Oo,by rw[a8,e]⟩;omega
 have d5:sm n (λj=>red m cost (T l) (B l) j*ray m (T k) (B k) (c k) j)<0:=by
  rw[<-b9.cost_hom cost (a3.hom_ray (h.clt k Oo)),a3.ray_cost cost (h.clt k Oo)];exact h.neg k Oo
 have hex:∃j,j<n/\red m cost (T l) (B l) j*ray m (T k) (B k) (c k) j<0:=by
  by_cases a5:∀j,j<n->0<=red m cost (T l) (B l) j*ray m (T k) (B k) (c k) j;have:=zx a5;grind;have ⟨j,hj⟩:=Classical.not_forall.1 a5;have ⟨K,h2⟩:=Classical.not_imp.1 hj;exact⟨j,K,Rr⟩
 have⟨j,hj,M⟩:=hex;by_cases hb:InB m (B k) j
 .obtain⟨i,hi,rfl⟩:=hb;have d2:B k i≠c k:=λe=>I k Oo ⟨i,hi,e⟩;have O:ray m (T k) (B k) (c k) (B k i)=- T k i (c k):=by
   unfold ray;rw[fF d2,a3.val_basic (λi=>- T k i (c k)) hi];grind
  rw[O]at M;have c7:¬InB m (B l) (B k i):=by
   intro ⟨i',b1,e⟩;rw[<-e,b9.red_basic cost b1]at M;grind
  obtain⟨k',c8,c9,a6⟩:∃k',p<=k'/\k'<p+d+1/\c k'=B k i:=by
   by_cases hp:InB m (B p) (B k i);have K:=(same _).1 hp;rw[show p+d+1=l+(p+d+1-l)by omega]at K;have⟨k',a,b,e⟩:=h.enter _ l _ Oo c7 K;exact⟨k',Oo,Oo,e⟩;have K:InB m (B (p+(k-p))) (B k i):=by rw[show p+(k-p)=k by omega];exact⟨i,hi,rfl⟩
   have⟨k',a,b,e⟩:=h.enter _ p _ Oo hp K;exact⟨k',Oo,Oo,e⟩
  have hle:=a4 _ c8 c9;rw[a6]at hle;by_cases het:B k i=c l;have d3:=a3.inj hi (h.rlt k Oo) (by rw[a8,het]);have K:=h.pos k Oo;have h2:=h.neg l Oo;rw[het,d3]at M;have:=jg (rI h2) (show-T k (r k) (c k)<=0 by grind);grind;have K:=h.least l Oo (B k i) Oo (a6▸h.unbar _ Oo);have h2:0<T k i (c k):=by
   by_cases e:0<T k i (c k);exact e;have:=iG K (show 0<=- T k i (c k)by grind);grind
  have h3:T k i n=0:=by
   have e1:=V k a7 Oo (B k i);have e2:=V l d0 Oo (B k i);rw[a3.val_basic (λi=>T k i n) hi]at e1;rw[val_not (λi' b1 e=>c7 ⟨i',b1,e⟩)]at e2;grind
  have h4:=hzero k a7 b8;have h5:=h.tie k Oo i hi h2 (by rw[h3,h4];grind);rw[a8]at h5;omega
 by_cases e:j=c k
 .have K:=h.least l Oo _ hst (h.unbar k Oo);have O:ray m (T k) (B k) (c k) j=1:=by
   unfold ray;rw[fE e,val_not (λi hi e'=>hb ⟨i,hi,e'⟩)];grind
  rw[O,e]at M;grind
 have O:ray m (T k) (B k) (c k) j=0:=by
  unfold ray;rw[fF e,val_not (λi hi e'=>hb ⟨i,hi,e'⟩)];grind
 rw[O]at M;grind
end
def Kf:∀(N:Nat) (f:NN),(∀k,k<=N->f k<N)->∃p q,p<q/\q<=N/\f p=f q
 |0,f,h=>absurd (h 0 Oo) Oo
 |N+1,f,h=>by
  by_cases hex:∃p,p<=N/\f p=f (N+1);have⟨p,K,M⟩:=hex;exact⟨p,N+1,Oo,Oo,M⟩;have I:∀p,p<=N->f p≠f (N+1):=λp V e=>hex ⟨p,V,e⟩;have⟨p,q,K,M,O⟩:=Kf N (λk=>if f k=N then f (N+1) else f k) (by
   intro k hk;have K:=h k Oo;have M:=h (N+1) Oo;have O:=I k hk;show(if f k=N then f (N+1) else f k)<N;split <;> omega)
  refine⟨p,q,K,Oo,?_⟩;have h4:=I p Oo;have h5:=I q Oo;split at O <;> split at O <;> omega
def mask(s:NB):NN
 |0=>0
 |n+1=>mask s n+(if s n then 2 ^ n else 0)
def XN s:∀n,mask s n<2 ^ n
 |0=>by show 0<1;omega
 |n+1=>by
  have:=XN s n;show mask s n+(if s n then 2 ^ n else 0)<2 ^ (n+1);rw[Nat.pow_succ];split <;> omega
def Kh s t:∀n,mask s n=mask t n->∀j,j<n->s j=t j
 |0,_,j,hj=>absurd hj Oo
 |n+1,h,j,hj=>by
  have M:=XN s n;have O:=XN t n;have I:mask s n+(if s n then 2 ^ n else 0)=mask t n+(if t n then 2 ^ n else 0):=h;have K:s n=t n:=by
   cases hs:s n <;> cases ht:t n <;> simp[hs,ht]at I |- <;> omega
  by_cases e:j=n;rw[e];exact K;rw[K]at I;exact Kh s t n Oo j Oo
def Run.bounded{m n A cost bar T B r c}(h:Run m n A cost bar (2 ^ n) T B r c):False:=by
 have dec:∀k j,Decidable (InB m (B k) j):=λk j=>Classical.propDecidable _;have⟨p,q,O,V,M⟩:=Kf _ (λk=>mask (λj=>@decide _ (dec k j)) n) (λk _=>XN _ n);have key:=Kh _ _ n M;refine h.no_cycle p (q-p-1) Oo (λj=>?_);rw[show p+(q-p-1)+1=q by omega];have I:∀k,k<=2 ^ n->InB m (B k) j->j<n:=by
  intro k hk ⟨i,hi,e⟩;rw[<-e];exact(h.inv k hk).lt i hi
 constructor
 .intro K;have:=key j (I p Oo K);have e:@oD (InB m (B p) j) (dec p j):=by simpa using K
  rw[e]at this;simpa using this.symm
 intro K;have:=key j (I q Oo K);have e:@oD (InB m (B q) j) (dec q j):=by simpa using K
 rw[e]at this;simpa using this
end Go.Proofs.YtfpjpngjikdaoaaGreat.Cov
namespace Go.Proofs.YtfpjpngjikdaoaaGreat.Cov
def first(p:NB):Nat->Option Nat
 |0=>none
 |n+1=>match first p n with
  |some j=>Q j
  |none=>if p n then Q n else none
def jk{p}:∀{n:Nat},first p n=none->∀i,i<n->p i=nF
 |0,_,i,hi=>absurd hi Oo
 |n+1,h,i,hi=>by
  unfold first at h;cases hf:first p n with
  |some I=>rw[hf]at h;cases h
  |none=>
   rw[hf]at h;simp only at h;split at h;cases h
   rename_i hp;by_cases e:i=n;rw[e];simpa using hp;exact jk hf i Oo
def first_some{p}:∀{n j:Nat},first p n=Q j->j<n/\p j/\∀i,i<j->p i=nF
 |0,j,h=>by cases h
 |n+1,j,h=>by
  unfold first at h;cases hf:first p n with
  |some M=>
   rw[hf]at h;simp only[oI]at h;subst h;have⟨O,I,K⟩:=first_some hf;exact⟨Oo,I,K⟩
  |none=>
   rw[hf]at h;simp only at h;split at h
   .rename_i hp;simp only[oI]at h;subst h;exact⟨Oo,hp,λi hi=>jk hf i hi⟩
   cases h
def best(good:NB)(before:Nat->NB):Nat->Option Nat
 |0=>none
 |m+1=>match best good before m with
  |none=>if good m then Q m else none
  |some b=>if good m&&before m b then Q m else Q b
def Zf{good before}:∀{m:Nat},best good before m=none->∀i,i<m->good i=nF
 |0,_,i,hi=>absurd hi Oo
 |m+1,h,i,hi=>by
  unfold best at h;cases hb:best good before m with
  |none=>
   rw[hb]at h;simp only at h;split at h;cases h
   rename_i hp;by_cases e:i=m;rw[e];simpa using hp;exact Zf hb i Oo
  |some b=>
   rw[hb]at h;simp only at h;split at h <;> cases h
def before(T:NQ)(B:NN)(n c i o:Nat):Bool:=
 if T i n / T i c=T o n / T o c then oD (B i<B o) else oD (T i n / T i c<T o n / T o c)
def best_some{T B n c}:∀{m r:Nat},best (λi=>oD (0<T i c)) (before T B n c) m=Q r->
 r<m/\0<T r c/\∀i,i<m->0<T i c->T r n / T r c<=T i n / T i c/\(T i n / T i c=T r n / T r c->B r<=B i)
 |0,r,h=>by cases h
 |m+1,r,h=>by
  unfold best at h;cases hb:best (λi=>oD (0<T i c)) (before T B n c) m with
  |none=>
   rw[hb]at h;simp only at h;split at h
   .rename_i hp;simp only[oI]at h;subst h;refine⟨Oo,by simpa using hp,λi hi I=>?_⟩;by_cases e:i=m;subst e;exact⟨Rr,λ_=>eA⟩;have:=Zf hb i Oo;simp at this;grind
   cases h
  |some b=>
   rw[hb]at h;have⟨h1,h2,h3⟩:=best_some hb;simp only at h;split at h
   .rename_i hp;simp only[oI]at h;subst h;simp only[bV,dE]at hp;have⟨p1,O⟩:=hp;unfold before at O;refine⟨Oo,p1,λi hi I=>?_⟩;by_cases e:i=m;subst e;exact⟨Rr,λ_=>eA⟩;have⟨q1,q2⟩:=h3 i Oo I;split at O
    .rename_i heq;have V:B m<B b:=by simpa using O
     refine⟨Rr,λM=>?_⟩;have:=q2 Rr;omega
    have V:T m n / T m c<T b n / T b c:=by simpa using O
    exact⟨Rr,λM=>Rr⟩
   rename_i hp;simp only[oI]at h;subst h;refine⟨Oo,h2,λi hi I=>?_⟩;by_cases e:i=m
   .subst e;have K:before T B n c i b=false:=by
     by_cases M:before T B n c i b=true;exfalso;apply hp;rw[M];simpa using I;simpa using M
    unfold before at K;split at K
    .rename_i heq;have V:¬B i<B b:=by simpa using K
     exact⟨Rr,λ_=>Oo⟩
    have V:¬T i n / T i c<T b n / T b c:=by simpa using K
    exact⟨Rr,λM=>Rr⟩
   exact h3 i Oo I
structure Sx where
 T:NQ
 B:NN
section
variable (m n:Nat) (cost:NR) (bar:NB)
def enterOf(s:Sx):Option Nat:=first (λj=>!bar j&&oD (red m cost s.T s.B j<0)) n
def leaveOf(s:Sx)(c:Nat):Option Nat:=best (λi=>oD (0<s.T i c)) (before s.T s.B n c) m
def stepOf(s:Sx):Option (Nat×Nat):=match enterOf m n cost bar s with
 |none=>none
 |some c=>match leaveOf m n s c with
  |none=>none
  |some r=>Q (r,c)
def pivS(s:Sx)(r c:Nat):Sx:=⟨pivT s.T r c,pivB s.B r c⟩
def nxt(s:Sx):Sx:=match stepOf m n cost bar s with
 |none=>s
 |some (r,c)=>pivS s r c
def it(s:Sx):Nat->Sx
 |0=>s
 |k+1=>nxt m n cost bar (it s k)
end
def nxt_some{m n cost bar s rc}(h:stepOf m n cost bar s=Q rc):nxt m n cost bar s=pivS s rc.1 rc.2:=by
 unfold nxt;rw[h]
def step_some{m n cost bar s r c}(h:stepOf m n cost bar s=Q (r,c)):
 r<m/\c<n/\bar c=nF/\red m cost s.T s.B c<0/\(∀j,j<c->bar j=nF->0<=red m cost s.T s.B j)/\0<s.T r c/\
 ∀i,i<m->0<s.T i c->s.T r n / s.T r c<=s.T i n / s.T i c/\(s.T i n / s.T i c=s.T r n / s.T r c->s.B r<=s.B i):=by
 unfold stepOf at h;cases he:enterOf m n cost bar s with
 |none=>rw[he]at h;cases h
 |some c'=>
  rw[he]at h;simp only at h;cases hl:leaveOf m n s c' with
  |none=>rw[hl]at h;cases h
  |some r'=>
   rw[hl]at h;simp only[oI,rD]at h;obtain⟨rfl,rfl⟩:=h;have⟨K,I,M⟩:=first_some he;have⟨O,V,h6⟩:=best_some hl;simp only[bV,eY,dE]at I;refine⟨O,K,I.1,I.2,λj hj hb=>?_,V,h6⟩;have:=M j hj;rw[hb]at this;simp at this;grind
def qDT{m n T r c}(O:r<m)(K:∀i,i<m->0<=T i n)(V:0<T r c)
 (I:∀i,i<m->0<T i c->T r n / T r c<=T i n / T i c):∀i,i<m->0<=pivT T r c i n:=by
 intro i hi;have M:=Ql (K r O) V;unfold pivT;split;exact M;by_cases e:0<T i c
 .have h1:=I i hi e;have h2:T i c*(T r n / T r c)<=T i c*(T i n / T i c):=by
   have:=iG (rI e) (show 0<=T i n / T i c-T r n / T r c by grind);grind
  have h3:T i c*(T i n / T i c)=T i n:=Rr;grind
 have h1:=jR (show T i c<=0 by grind) M;have h2:=K i hi;grind
structure Good(m n:Nat)(A:NQ)(bar:NB)(s:Sx):Prop where
 inv:Inv m n A s.T s.B
 feas:∀i,i<m->0<=s.T i n
 open':∀i,i<m->bar (s.B i)=nF
def Good.P{m n A bar cost s}(h:Good m n A bar s){r c}(hs:stepOf m n cost bar s=Q (r,c)):Good m n A bar (pivS s r c):=by
 have⟨I,K,M,h4,h5,O,V⟩:=step_some hs;refine⟨h.inv.pivot I K Rr,qDT I h.feas O (λi hi hp=>(V i hi hp).1),λi hi=>?_⟩;show bar (pivB s.B r c i)=nF;unfold pivB;split;exact M;exact h.open' i hi
def Good.nxt{m n A bar cost s}(h:Good m n A bar s):Good m n A bar (nxt m n cost bar s):=by
 unfold Cov.nxt;split;exact h;rename_i r c hs;exact h.P hs
def Good.it{m n A bar cost s}(h:Good m n A bar s):∀k,Good m n A bar (it m n cost bar s k)
 |0=>h
 |k+1=>(Good.it h k).nxt
def halts{m n A bar}cost{s}(h:Good m n A bar s):
 ∃k,stepOf m n cost bar (it m n cost bar s k)=none/\∀K,K<k->stepOf m n cost bar (it m n cost bar s K)≠none:=by
 have hex:∃k,stepOf m n cost bar (it m n cost bar s k)=none:=by
  by_cases hn:∃k,stepOf m n cost bar (it m n cost bar s k)=none;exact hn;exfalso;have I:∀k,∃rc:Nat×Nat,stepOf m n cost bar (it m n cost bar s k)=Q rc:=by
   intro k;cases hs:stepOf m n cost bar (it m n cost bar s k)with
   |none=>exact absurd ⟨k,hs⟩ hn
   |some rc=>exact⟨rc,rfl⟩
  have M:=λk=>Classical.choose_spec (I k);refine Run.bounded (m:=m) (n:=n) (A:=A) (cost:=cost) (bar:=bar) (T:=λk=>(it m n cost bar s k).T) (B:=λk=>(it m n cost bar s k).B) (r:=λk=>(Classical.choose (I k)).1) (c:=λk=>(Classical.choose (I k)).2) ?_;have hst:=λk=>step_some (r:=(Classical.choose (I k)).1) (c:=(Classical.choose (I k)).2) (M k);have O:∀k,it m n cost bar s (k+1)=pivS (it m n cost bar s k) (Classical.choose (I k)).1 (Classical.choose (I k)).2:=by
   intro k;exact nxt_some (M k)
  exact {
   inv:=λk _=>(h.it k).inv
   feas:=λk _=>(h.it k).feas
   rlt:=λk _=>(hst k).1
   clt:=λk _=>(hst k).2.1
   unbar:=λk _=>(hst k).2.2.1
   neg:=λk _=>(hst k).2.2.2.1
   least:=λk _=>(hst k).2.2.2.2.1
   pos:=λk _=>(hst k).2.2.2.2.2.1
   tie:=λk _ i hi hp he=>((hst k).2.2.2.2.2.2 i hi hp).2 he
   nextT:=λk _=>by rw[O k];rfl
   nextB:=λk _=>by rw[O k];rfl }
 have⟨k,hk⟩:=hex;induction k using Nat.strongRecOn with
 |ind k ih=>
  by_cases V:∃K,K<k/\stepOf m n cost bar (it m n cost bar s K)=none;have⟨K,h1,h2⟩:=V;exact ih K h1 h2;exact⟨k,hk,λK h1 h2=>V ⟨K,h1,h2⟩⟩
def F(m n:Nat)(A:NQ)(bar:NB)(x:NR):Prop:=Sol m n A x/\(∀j,j<n->0<=x j)/\(∀j,j<n->bar j->x j=0)
def xb(m n:Nat)(s:Sx):NR:=val m (λi=>s.T i n) s.B
def dot(n:Nat)(cost x:NR):Rat:=sm n (λj=>cost j*x j)
def qIu{m n A s}(h:Inv m n A s.T s.B)cost:dot n cost (xb m n s)=obj m n cost s.T s.B:=by
 rw[Vn h cost];exact sm_congr (λj _=>by unfold xb;grind)
def Yv{m t B}(h:∀i,i<m->0<=t i)j:0<=val m t B j:=by
 refine zx (λi hi=>?_);split;exact h i hi;grind
def Good.xb_mem{m n A bar s}(h:Good m n A bar s):F m n A bar (xb m n s):=by
 refine⟨h.inv.sol_basic,λj _=>Yv h.feas j,λj _ hb=>?_⟩;refine val_not (λi hi e=>?_);have:=h.open' i hi;rw[e,hb]at this;cases this
def narrowed(m n:Nat)(cost:NR)(bar:NB)(s:Sx):NB:=λj=>bar j||(oD (j<n)&&oD (0<red m cost s.T s.B j))
def qET{m n A bar cost s}(h:Good m n A bar s)(hs:stepOf m n cost bar s=none)
 L (hL:∀x,F m n A bar x->L<=dot n cost x):∀j,j<n->bar j=nF->0<=red m cost s.T s.B j:=by
 unfold stepOf at hs;cases he:enterOf m n cost bar s with
 |none=>
  intro j K hb;have:=jk he j K;rw[hb]at this;simp at this;grind
 |some c=>
  exfalso;rw[he]at hs;simp only at hs;have⟨h1,h2,h3⟩:=first_some he;simp only[bV,eY,dE]at h2;have⟨hb,a3⟩:=h2;have M:∀i,i<m->s.T i c<=0:=by
   intro i hi;cases hl:leaveOf m n s c with
   |none=>
    have:=Zf hl i hi;simp at this;grind
   |some r=>rw[hl]at hs;cases hs
  have O:∀j,0<=ray m s.T s.B c j:=by
   intro j;unfold ray;have:=Yv (B:=s.B) (t:=λi=>- s.T i c) (m:=m) (λi hi=>by have:=M i hi;grind) j;split <;> grind
  have hF:∀t:Rat,0<=t->F m n A bar (λj=>xb m n s j+t*ray m s.T s.B c j):=by
   intro t ht;have⟨k1,k2,k3⟩:=h.xb_mem;refine⟨λq hq=>?_,λj K=>?_,λj K I=>?_⟩
   .have e:(λj=>(xb m n s j+t*ray m s.T s.B c j)*A j q)=λj=>xb m n s j*A j q+t*(ray m s.T s.B c j*A j q):=by funext j;grind
    rw[e,sm_add,sm_mul,k1 q hq,h.inv.hom_ray h1 q hq];grind
   have a1:=k2 j K;have a2:=iG ht (O j);grind;have a1:=k3 j K I;have a2:ray m s.T s.B c j=0:=by
    unfold ray;rw[fF (λe=>by rw[e,hb]at I;cases I),val_not (λi hi e=>by have:=h.open' i hi;rw[e,I]at this;cases this)];grind
   show xb m n s j+t*ray m s.T s.B c j=0;rw[a1,a2];grind
  have V:∀t:Rat,dot n cost (λj=>xb m n s j+t*ray m s.T s.B c j)=dot n cost (xb m n s)+t*red m cost s.T s.B c:=by
   intro t;unfold dot;have e:(λj=>cost j*(xb m n s j+t*ray m s.T s.B c j))=λj=>cost j*xb m n s j+t*(cost j*ray m s.T s.B c j):=by funext j;grind
   rw[e,sm_add,sm_mul,h.inv.ray_cost cost h1]
  have a4:=hL _ h.xb_mem;have ht:0<=(dot n cost (xb m n s)-L+1) / (- red m cost s.T s.B c):=Ql Rr Rr;have h5:=hL _ (hF _ ht);rw[V]at h5;have h6:(dot n cost (xb m n s)-L+1) / (- red m cost s.T s.B c)*red m cost s.T s.B c=-(dot n cost (xb m n s)-L+1):=Rr;grind
def phase{m n A bar cost s}(h:Good m n A bar s)(hs:stepOf m n cost bar s=none)
 L (hL:∀x,F m n A bar x->L<=dot n cost x):
 Good m n A (narrowed m n cost bar s) s/\(∀x,F m n A (narrowed m n cost bar s) x->F m n A bar x/\dot n cost x=dot n cost (xb m n s))/\
 (∀x,F m n A bar x->dot n cost (xb m n s)<=dot n cost x/\(dot n cost x<=dot n cost (xb m n s)->F m n A (narrowed m n cost bar s) x)):=by
 have K:=qET h hs L hL;have M:∀x,F m n A bar x->dot n cost x=sm n (λj=>red m cost s.T s.B j*x j)+dot n cost (xb m n s):=by
  intro x I;rw[qIu h.inv cost];exact h.inv.cost_sol _ I.1
 have O:∀x,F m n A bar x->∀j,j<n->0<=red m cost s.T s.B j*x j:=by
  intro x I j V;cases hb:bar j with
  |false=>exact iG (K j V hb) (I.2.1 j V)
  |true=>rw[I.2.2 j V hb];grind
 refine⟨⟨h.inv,h.feas,λi hi=>?_⟩,λx I=>?_,λx I=>?_⟩;unfold narrowed;rw[h.open' i hi,h.inv.red_basic cost hi];simp
 .have a3:F m n A bar x:=⟨I.1,I.2.1,λj V hb=>I.2.2 j V (by unfold narrowed;rw[hb];rfl)⟩;refine⟨a3,?_⟩;rw[M x a3,sm_zero];grind;intro j V;cases hn:narrowed m n cost bar s j with
  |true=>rw[I.2.2 j V hn];grind
  |false=>
   unfold narrowed at hn;simp only[rR,pD,aP]at hn;have⟨n1,n2⟩:=hn;have:=K j V n1;have h0:red m cost s.T s.B j=0:=by
    rcases n2 with n2|n2;omega;grind
   rw[h0];grind
 have h1:=M x I;have h2:=zx (O x I);refine⟨Rr,λhle=>⟨I.1,I.2.1,λj V hn=>?_⟩⟩;have h3:=QS (O x I) Rr j V;unfold narrowed at hn;simp only[eT,bV,dE]at hn;rcases hn with hn|⟨_,hn⟩;exact I.2.2 j V hn;rcases pK.1 h3 with e|e;grind;exact e
end Go.Proofs.YtfpjpngjikdaoaaGreat.Cov
namespace Go.Proofs.YtfpjpngjikdaoaaGreat.Cov
def Lex:List Rat->List Rat->Prop
 |a::l,b::r=>a<b\/(a=b/\Lex l r)
 |[],[]=>True
 |_,_=>False
def Lex.antisymm:∀{l r:List Rat},Lex l r->Lex r l->l=r
 |[],[],_,_=>rfl
 |[],_::_,h,_=>h.elim
 |_::_,[],h,_=>h.elim
 |a::l,b::r,I,K=>by
  rcases I with I|⟨I,M⟩ <;> rcases K with K|⟨K,O⟩;exfalso;grind;exfalso;grind;exfalso;grind;rw[I,Lex.antisymm M O]
def Aim(m n:Nat)(cost:NR)(bar:NB)(s:Sx)(bar':NB)(s':Sx):Prop:=
 ∃k,stepOf m n cost bar (it m n cost bar s k)=none/\(∀k',k'<k->stepOf m n cost bar (it m n cost bar s k')≠none)/\s'=it m n cost bar s k/\bar'=narrowed m n cost bar s'
def Aims(m n:Nat):List (NR)->(NB)->Sx->(NB)->Sx->Prop
 |[],bar,s,bar',s'=>bar'=bar/\s'=s
 |c::l,bar,s,bar',s'=>∃b1 s1,Aim m n c bar s b1 s1/\Aims m n l b1 s1 bar' s'
def Good.aim{m n A cost bar I s K}(h:Good m n A bar s)(V:Aim m n cost bar s I K)
 L (hL:∀x,F m n A bar x->L<=dot n cost x):
 Good m n A I K/\(∀x,F m n A I x->F m n A bar x/\dot n cost x=dot n cost (xb m n K))/\
 (∀x,F m n A bar x->dot n cost (xb m n K)<=dot n cost x/\(dot n cost x<=dot n cost (xb m n K)->F m n A I x)):=by
 have⟨k,M,_,O,h4⟩:=V;subst h4;rw[<-O]at M
 exact phase (O▸h.it k) M L hL
def Good.aims{m n A}:∀{l:List (NR)} {bar I:NB} {s K:Sx},Good m n A bar s->Aims m n l bar s I K->
 (∀c∈l,∃L,∀x,F m n A bar x->L<=dot n c x)->
 Good m n A I K/\(∀x,F m n A I x->F m n A bar x)/\∀x,F m n A bar x->Lex (l.map λc=>dot n c (xb m n K)) (l.map λc=>dot n c x)
 |[],bar,I,s,K,hg,ha,_=>by
  obtain⟨rfl,rfl⟩:=ha;exact⟨hg,λ_ M=>M,λ_ _=>trivial⟩
 |c::l,bar,I,s,K,hg,ha,hb=>by
  have⟨b1,s1,h1,h2⟩:=ha;have⟨L,hL⟩:=hb c cY;have⟨g1,g2,g3⟩:=hg.aim h1 L hL;have⟨k1,k2,k3⟩:=Good.aims g1 h2 (λc' O=>by
   have⟨L',V⟩:=hb _ (mC _ O);exact⟨L',λx M=>V x (g2 x M).1⟩)
  refine⟨k1,λx M=>(g2 x (k2 x M)).1,λx M=>?_⟩;have e1:=(g2 _ (k2 _ k1.xb_mem)).2;have⟨e2,e3⟩:=g3 x M;by_cases e:dot n c (xb m n K)<dot n c x;exact .inl e;exact .inr ⟨Rr,k3 x (e3 Rr)⟩
def qDO{m n A}cost{bar s}(h:Good m n A bar s):∃I K,Aim m n cost bar s I K:=by
 have⟨k,M,O⟩:=halts cost h;exact⟨_,_,k,M,O,rfl,rfl⟩
def cf(a b:Nat)(v:Rat):NR:=λj=>if a<=j/\j<b then v else 0
def sm_app a b f:sm (a+b) f=sm a f+sm b (λi=>f (a+i)):=by
 induction b with
 |zero=>show sm a f=sm a f+0;grind
 |succ b ih=>
  show sm (a+b) f+f (a+b)=sm a f+(sm b (λi=>f (a+i))+f (a+b));rw[ih];grind
def Ko{n k}(I:k<n)x:dot n (cf k (k+1) 1) x=x k:=by
 unfold dot;rw[sm_single (k:=k) I];unfold cf;rw[fE ⟨Oo,Oo⟩];grind;intro i _ K;unfold cf;rw[fF Oo];grind
def ZX a b c v x:dot (a+b+c) (cf a (a+b) v) x=v*sm b (λi=>x (a+i)):=by
 unfold dot;rw[sm_app (a+b) c,sm_app a b];have I:sm a (λj=>cf a (a+b) v j*x j)=0:=sm_zero (λi hi=>by unfold cf;rw[fF Oo];grind);have K:sm c (λi=>cf a (a+b) v (a+b+i)*x (a+b+i))=0:=sm_zero (λi hi=>by unfold cf;rw[fF Oo];grind);rw[I,K,<-sm_mul];have M:sm b (λi=>cf a (a+b) v (a+i)*x (a+i))=sm b (λi=>v*x (a+i)):=sm_congr (λi hi=>by unfold cf;rw[fE ⟨Oo,Oo⟩]);rw[M];grind
def units(u:Nat):List (NR):=(range u).map λk=>cf k (k+1) 1
def key(v:Rat)(u:Nat)(x:NR):List Rat:=(v*sm u x)::(range u).map x
def key_inj{v u x y}(h:key v u x=key v u y):∀k,k<u->x k=y k:=by
 intro k I;have K:=(List.cons.inj h).2;have M:((range u).map x)[k]?=((range u).map y)[k]?:=by rw[K]
 simpa[I]using M
def key_congr{v u x y}(h:∀k,k<u->x k=y k):key v u x=key v u y:=by
 unfold key;rw[sm_congr h];congr 1;refine cV (λk I=>h k (by simpa using I))
def km{n u}(K:u<=n)x:(units u).map (λc=>dot n c x)=(range u).map x:=by
 unfold units;rw[map_map];refine cV (λk I=>?_);have:k<u:=by simpa using I
 exact Ko Oo x
def Xj{m n u A}(V:u<=n):∀c∈units u,∃L,∀x,F m n A (λ_=>false) x->L<=dot n c x:=by
 intro c I;unfold units at I;obtain⟨k,K,rfl⟩:=cC.1 I;have M:k<u:=by simpa using K
 exact⟨0,λx O=>by rw[Ko Oo x];exact O.2.1 k Oo⟩
def Vq:∀m,det m (λj i=>if j=i then 1 else 0)=1
 |0=>rfl
 |m+1=>by
  show sm (m+1) _=1;rw[sm_single (k:=0) Oo]
  .have e:minor 0 (λj i=>if j=i then (1:Rat) else 0)=λj i=>if j=i then 1 else 0:=by
    funext a b;show(if skip 0 a=b+1 then (1:Rat) else 0)=if a=b then 1 else 0
    rw[show skip 0 a=a+1 from fF Oo];by_cases e:a=b;rw[fE e,fE Oo];rw[fF e,fF Oo]
   rw[e,Vq m];show 1*1*1=(1:Rat);grind
  intro i _ I;show sg i*(if i=0 then 1 else 0)*_=(0:Rat);rw[fF I];grind
def Yo{m n o A}(ho:o+m<=n)(I:∀i,i<m->∀r,r<m->A (o+i) r=if i=r then 1 else 0)(K:∀r,r<m->A n r=1):
 Good m n A (λ_=>false) ⟨λi j=>A j i,λi=>o+i⟩:=by
 refine⟨⟨λi hi=>by show o+i<n;omega,λi hi k hk=>?_,λj V r M=>?_,?_⟩,λi hi=>?_,λ_ _=>rfl⟩
 .show A (o+k) i=_;rw[I k hk i hi];by_cases e:i=k;rw[fE e,fE e.symm];rw[fF e,fF (λh=>e h.symm)]
 .rw[sm_single (k:=r) M];rw[I r M r M,fE rfl];grind;intro i hi O;rw[I i hi r M,fF O];grind
 rw[ki (N:=λj i=>if j=i then 1 else 0) (λj V i hi=>I j V i hi),Vq];grind;show 0<=A n i;rw[K i hi];decide
def Pack(m u:Nat)(M:NQ)(x:NR):Prop:=(∀e,e<u->0<=x e)/\∀r,r<m->sm u (λe=>M r e*x e)<=1
def Cover(m u:Nat)(M:NQ)(x:NR):Prop:=(∀e,e<u->0<=x e)/\∀r,r<m->1<=sm u (λe=>M r e*x e)
def packA(m u:Nat)(M:NQ):NQ:=λj r=>if j<u then M r j else if j<u+m then (if j-u=r then 1 else 0) else 1
def coverA(m u:Nat)(M:NQ):NQ:=λj r=>if j<u then M r j else if j<u+m then (if j-u=r then -1 else 0) else if j<u+m+m then (if j-u-m=r then 1 else 0) else 1
def kE{m r}(K:r<m)(f:NR)v:sm m (λi=>f i*(if i=r then v else 0))=f r*v:=by
 rw[sm_single (k:=r) K];rw[fE rfl];intro i _ I;rw[fF I];grind
def Ut{m u M r}(I:r<m)(x:NR):sm (u+m) (λj=>x j*packA m u M j r)=sm u (λe=>M r e*x e)+x (u+r):=by
 rw[sm_app];have K:sm u (λj=>x j*packA m u M j r)=sm u (λe=>M r e*x e):=sm_congr (λi hi=>by unfold packA;rw[fE hi];grind);have O:sm m (λi=>x (u+i)*packA m u M (u+i) r)=sm m (λi=>x (u+i)*(if i=r then 1 else 0)):=sm_congr (λi hi=>by
  unfold packA;rw[fF Oo,fE Oo,show u+i-u=i by omega])
 rw[K,O,kE I];grind
def pack_good{m u M}:Good m (u+m) (packA m u M) (λ_=>false) ⟨λi j=>packA m u M j i,λi=>u+i⟩:=by
 refine Yo Oo (λi hi r I=>?_) (λr I=>?_);unfold packA;rw[fF Oo,fE Oo,show u+i-u=i by omega];unfold packA;rw[fF Oo,fF Oo]
def pack_least{m u M}(hM:∀r,r<m->∀e,e<u->0<=M r e)(a8:∀e,e<u->∃r,r<m/\M r e=1){a3 s'}
 (h:Aims m (u+m) (cf 0 u (-1)::units u) (λ_=>false) ⟨λi j=>packA m u M j i,λi=>u+i⟩ a3 s'):
 Good m (u+m) (packA m u M) a3 s'/\Pack m u M (xb m (u+m) s')/\∀y,Pack m u M y->Lex (key (-1) u (xb m (u+m) s')) (key (-1) u y):=by
 have I:∀x,dot (u+m) (cf 0 u (-1)) x=(-1)*sm u x:=by
  intro x;have:=ZX 0 u m (-1) x;rw[show 0+u=u by omega]at this;rw[this];congr 1;exact sm_congr (λi _=>by rw[show 0+i=i by omega])
 have a5:∀x,F m (u+m) (packA m u M) (λ_=>false) x->∀r,r<m->sm u (λe=>M r e*x e)+x (u+r)=1:=by
  intro x O r V;rw[<-Ut V x,O.1 r V];unfold packA;rw[fF Oo,fF Oo]
 have K:∀x,F m (u+m) (packA m u M) (λ_=>false) x->Pack m u M x:=by
  intro x O;refine⟨λe he=>O.2.1 e Oo,λr V=>?_⟩;have h1:=a5 x O r V;have h2:=O.2.1 (u+r) Oo;grind
 have a6:∀x,F m (u+m) (packA m u M) (λ_=>false) x->∀e,e<u->x e<=1:=by
  intro x O e he;have⟨r,V,a9⟩:=a8 e he;have hp:=(K x O).2 r V;have h1:M r e*x e<=sm u (λe=>M r e*x e):=by
   rw[vU he (λe=>M r e*x e)];have:0<=sm u (λi=>if i=e then 0 else M r i*x i):=zx (λi hi=>by
    split;grind;exact iG (hM r V i hi) (O.2.1 i Oo))
   grind
  rw[a9]at h1;grind
 have⟨g1,g2,g3⟩:=(pack_good).aims h (λc hc=>by
  rcases cH.1 hc with rfl|hc;refine⟨-sm u (λ_=>1),λx O=>?_⟩;rw[I];have:=qDN (λi hi=>a6 x O i hi);grind;exact Xj Oo c hc)
 refine⟨g1,K _ (g2 _ g1.xb_mem),λy hy=>?_⟩;have a7:F m (u+m) (packA m u M) (λ_=>false) (λj=>if j<u then y j else 1-sm u (λe=>M (j-u) e*y e)):=by
  refine⟨λr V=>?_,λj hj=>?_,λj _ hb=>by cases hb⟩;rw[Ut V];have e1:sm u (λe=>M r e*(if e<u then y e else 1-sm u (λe'=>M (e-u) e'*y e')))=sm u (λe=>M r e*y e):=sm_congr (λi hi=>by rw[fE hi]);rw[e1,fF Oo,show u+r-u=r by omega];unfold packA;rw[fF Oo,fF Oo];grind;show 0<=if j<u then y j else 1-sm u (λe=>M (j-u) e*y e)
  split;exact hy.1 j (by assumption);have:=hy.2 (j-u) Oo;grind
 have a4:=g3 _ a7;rw[map_cons,map_cons,km Oo,km Oo,I,I]at a4;have e2:key (-1) u (λj=>if j<u then y j else 1-sm u (λe=>M (j-u) e*y e))=key (-1) u y:=key_congr (λk hk=>fE hk);rw[<-e2];exact a4
def Yp{m u M r}(I:r<m)(x:NR):sm (u+m+m) (λj=>x j*coverA m u M j r)=sm u (λe=>M r e*x e)-x (u+r)+x (u+m+r):=by
 rw[sm_app (u+m) m,sm_app u m];have K:sm u (λj=>x j*coverA m u M j r)=sm u (λe=>M r e*x e):=sm_congr (λi hi=>by unfold coverA;rw[fE hi];grind);have O:sm m (λi=>x (u+i)*coverA m u M (u+i) r)=sm m (λi=>x (u+i)*(if i=r then -1 else 0)):=sm_congr (λi hi=>by
  unfold coverA;rw[fF Oo,fE Oo,show u+i-u=i by omega])
 have V:sm m (λi=>x (u+m+i)*coverA m u M (u+m+i) r)=sm m (λi=>x (u+m+i)*(if i=r then 1 else 0)):=sm_congr (λi hi=>by
  unfold coverA;rw[fF Oo,fF Oo,fE Oo,show u+m+i-u-m=i by omega])
 rw[K,O,V,kE I (λi=>x (u+i)),kE I (λi=>x (u+m+i))];grind
def cover_good{m u M}:Good m (u+m+m) (coverA m u M) (λ_=>false) ⟨λi j=>coverA m u M j i,λi=>u+m+i⟩:=by
 refine Yo Oo (λi hi r I=>?_) (λr I=>?_);unfold coverA;rw[fF Oo,fF Oo,fE Oo,show u+m+i-u-m=i by omega];unfold coverA;rw[fF Oo,fF Oo,fF Oo]
def cover_least{m u M}(hM:∀r,r<m->∀e,e<u->0<=M r e)(a7:∀r,r<m->∃e,e<u/\M r e=1){a3 s'}
 (h:Aims m (u+m+m) (cf (u+m) (u+m+m) 1::cf 0 u 1::units u) (λ_=>false) ⟨λi j=>coverA m u M j i,λi=>u+m+i⟩ a3 s'):
 Good m (u+m+m) (coverA m u M) a3 s'/\Cover m u M (xb m (u+m+m) s')/\∀y,Cover m u M y->Lex (key 1 u (xb m (u+m+m) s')) (key 1 u y):=by
 have I:∀x,dot (u+m+m) (cf (u+m) (u+m+m) 1) x=sm m (λi=>x (u+m+i)):=by
  intro x;have:=ZX (u+m) m 0 1 x;rw[Nat.add_zero]at this;rw[this];grind
 have O:∀x,dot (u+m+m) (cf 0 u 1) x=1*sm u x:=by
  intro x;have:=ZX 0 u (m+m) 1 x;rw[show 0+u=u by omega,show u+(m+m)=u+m+m by omega]at this;rw[this];congr 1;exact sm_congr (λi _=>by rw[show 0+i=i by omega])
 have a6:∀x,F m (u+m+m) (coverA m u M) (λ_=>false) x->∀r,r<m->sm u (λe=>M r e*x e)-x (u+r)+x (u+m+r)=1:=by
  intro x hx r hr;rw[<-Yp hr x,hx.1 r hr];unfold coverA;rw[fF Oo,fF Oo,fF Oo]
 have⟨g1,g2,g3⟩:=(cover_good).aims h (λc hc=>by
  rcases cH.1 hc with rfl|hc;exact⟨0,λx hx=>by rw[I];exact zx (λi hi=>hx.2.1 _ Oo)⟩;rcases cH.1 hc with rfl|hc;exact⟨0,λx hx=>by rw[O];have:=zx (n:=u) (f:=x) (λi hi=>hx.2.1 _ Oo);grind⟩;exact Xj Oo c hc)
 have hF:=g2 _ g1.xb_mem;have a4:∀y,Cover m u M y->F m (u+m+m) (coverA m u M) (λ_=>false) (λj=>if j<u then y j else if j<u+m then sm u (λe=>M (j-u) e*y e)-1 else 0):=by
  intro y hy;refine⟨λr hr=>?_,λj hj=>?_,λj _ hb=>by cases hb⟩;rw[Yp hr];have e1:sm u (λe=>M r e*(if e<u then y e else if e<u+m then sm u (λe'=>M (e-u) e'*y e')-1 else 0))=sm u (λe=>M r e*y e):=sm_congr (λi hi=>by rw[fE hi]);rw[e1,fF Oo,fE Oo,fF Oo,fF Oo,show u+r-u=r by omega];unfold coverA;rw[fF Oo,fF Oo,fF Oo];grind;show 0<=if j<u then y j else if j<u+m then sm u (λe=>M (j-u) e*y e)-1 else 0
  split;exact hy.1 j (by assumption);split;have:=hy.2 (j-u) Oo;grind;grind
 have V:∀y:NR,dot (u+m+m) (cf (u+m) (u+m+m) 1) (λj=>if j<u then y j else if j<u+m then sm u (λe=>M (j-u) e*y e)-1 else 0)=0:=by
  intro y;rw[I];exact sm_zero (λi _=>by rw[fF Oo,fF Oo])
 have a5:Cover m u M (λ_=>1):=by
  refine⟨λ_ _=>by show(0:Rat)<=1;decide,λr hr=>?_⟩;have⟨e,he,a8⟩:=a7 r hr;rw[vU he (λe=>M r e*1),a8];have:0<=sm u (λi=>if i=e then 0 else M r i*1):=zx (λi hi=>by
   split;grind;have:=hM r hr i hi;grind)
  grind
 have hzero:sm m (λi=>xb m (u+m+m) s' (u+m+i))<=0:=by
  obtain⟨y1,a9⟩:∃y:NR,Cover m u M y:=⟨_,a5⟩;have K:=g3 _ (a4 _ a9);simp only[map_cons]at K;rw[V,I]at K;rcases K with K|⟨K,_⟩ <;> grind
 have hz:=QS (λi hi=>hF.2.1 _ Oo) hzero;refine⟨g1,⟨λe he=>hF.2.1 e Oo,λr hr=>?_⟩,λy hy=>?_⟩;have K:=a6 _ hF r hr;have h2:=hz r hr;have h3:=hF.2.1 (u+r) Oo;grind;have K:=g3 _ (a4 y hy);simp only[map_cons]at K;rw[km Oo,km Oo,V,I,O,O]at K;rw[sm_zero hz]at K;have e2:key 1 u (λj=>if j<u then y j else if j<u+m then sm u (λe=>M (j-u) e*y e)-1 else 0)=key 1 u y:=key_congr (λk hk=>fE hk);rw[<-e2];rcases K with K|⟨_,K⟩;exfalso;grind;exact K
end Go.Proofs.YtfpjpngjikdaoaaGreat.Cov
namespace Go.Proofs.YtfpjpngjikdaoaaGreat
open Go.Proofs.Tryz Go.RowKit
abbrev mZ(n:Nat)(t:oV)(_:oX):Nat:=n-(intOf t).toNat
def qa{k a b}(h:a=b):Ending.returned (.int k a)=rE (.int k b):=by rw[h]
def qE9 a b w(ha:-9000000000000000000<=a)(O:a<=9000000000000000000)(hb:-9000000000000000000<=b)(hb':b<=9000000000000000000):
 aG 223 #[ai a,ai b] w (ai (Int.gcd a b)):=by
 go_enter func223,ntmps223;go_wp2;go_loopw [0,1] (λx y wr=>∃K M:Int,x=ai K/\y=ai M/\-9000000000000000000<=K/\K<=9000000000000000000/\-9000000000000000000<=M/\M<=9000000000000000000/\Hh (Int.gcd K M=Int.gcd a b)/\Bl w wr) (λ_ y _=>(intOf y).natAbs);exact⟨a,b,rfl,rfl,ha,O,hb,hb',ay rfl,eB⟩;obtain⟨x,y,rfl,rfl,hx,a4,hy,V,hg,I⟩:=hrel;by_cases h0:y=0
 .subst h0;have hz:=RatM.gcd_zero x;rw[hg.o]at hz;clear hg;change Hh _ at hz;go_wp2;all_goals
   go_ret
   exact⟨qa (by rw[hz.o];omega),I⟩
 have a5:(y == 0)=false:=by simpa using h0
 have a3:=RatM.natAbs_tmod_lt x y h0;go_wp2;go_quiet (fail)
 go_roundw
 case rel=>(repeat apply oJ);exact⟨⟨y,x.tmod y,rfl,rfl,hy,V,Oo,Oo,ay ((RatM.gcd_step x y).trans hg),below_drewN I _⟩,rfl⟩
 case measure=>simpa[intOf]using a3
def qBB a b g{w}(K:-9000000000000000000<=a)(I:a<=9000000000000000000)(hb:-9000000000000000000<=b)(hb':b<=9000000000000000000)(M:(Int.gcd a b:Int)=g):
 aG 223 #[ai a,ai b] w (ai g):=by
 subst M;exact qE9 a b w K I hb hb'
def xi{W w1}(hb:Bl W w1):(∀b o,b<J W.1->eQ w1 (az b o)=eQ W (az b o))/\(∀b o,b<J W.1->w1.frozen? (az b o)=W.frozen? (az b o)):=
 ⟨λb o h=>hb.cell (p:=az b o) h,λb o h=>hb.frozen (p:=az b o) h⟩
def below_alloc1{w w' o}(hb:Below (J (S w o).1) (S w o) w'):Bl w w':=
 (aK).trans (hb.mono Ss)
def XY(n g:Int)(K:-9000000000000000000<=n)(I:n<=9000000000000000000):-9000000000000000000<=n.tdiv g/\n.tdiv g<=9000000000000000000:=by
 have:=RatM.tdiv_abs_le n g;omega
def yS{n d w}(hn:-9000000000000000000<=n)(a3:n<=9000000000000000000)(hd:-9000000000000000000<=d)(a4:d<=9000000000000000000)(h0:d≠0):
 aG 224 #[ai n,ai d] w (aQ #[ai (RatM.frN n d),ai (RatM.frD n d)]):=by
 have a5:=RatM.gcd_pos n d h0;have⟨q1,q2⟩:=XY n (Int.gcd n d) hn a3;have⟨q3,q4⟩:=XY d (Int.gcd n d) hd a4;by_cases I:d<0
 .have M:RatM.frN n d=-(n.tdiv (Int.gcd n d)):=by unfold RatM.frN;rw[fE I,sK]
  have O:RatM.frD n d=-(d.tdiv (Int.gcd n d)):=by unfold RatM.frD;rw[fE I,sK]
  rw[M,O];clear M O;have HG:Hh ((Int.gcd (-n) (-d):Int)=(Int.gcd n d:Int)):=by rw[RatM.gcd_neg_neg];exact rfl
  generalize (Int.gcd n d:Int)=g at *;have a6:(g == 0)=false:=Sy;go_enter func224,ntmps224;go_wp2_with fail;apply (qBB _ _ g Oo Oo Oo Oo HG.o).mn;intro w' hb;have⟨V,hf⟩:=xi hb;have c0:aC w' (J w.1) 0 (ai 0):=(V _ 0 Ss).trans Sg;have c1:aC w' (J w.1) 1 (ai 0):=(V _ 1 Ss).trans Sg;have hz:=hb.size;simp at hz;go_wp2_with fail;go_region
  go_wp2;refine aU (v:=aQ #[ai _,ai _]) (by simp[results,results224,go_sem,c0,c1];exact⟨rfl,rfl⟩) rfl ?_;exact⟨rfl,((((below_alloc1 hb).setCell eA _).setCell eA _)).drew⟩
 have M:RatM.frN n d=n.tdiv (Int.gcd n d):=by unfold RatM.frN;rw[fF I]
 have O:RatM.frD n d=d.tdiv (Int.gcd n d):=by unfold RatM.frD;rw[fF I]
 rw[M,O];clear M O;obtain⟨g,K⟩:∃g:Int,(Int.gcd n d:Int)=g:=⟨_,rfl⟩;rw[K]at a5 q1 q2 q3 q4 |-;have HG:=ay K;clear K;have a6:(g == 0)=false:=Sy;go_enter func224,ntmps224;go_wp2_with fail;apply (qBB n d g Oo Oo Oo Oo HG.o).mn;intro w' hb;have⟨V,hf⟩:=xi hb;have c0:aC w' (J w.1) 0 (ai 0):=(V _ 0 Ss).trans Sg;have c1:aC w' (J w.1) 1 (ai 0):=(V _ 1 Ss).trans Sg;have hz:=hb.size;simp at hz;go_wp2_with fail;go_region
 go_wp2;refine aU (v:=aQ #[ai _,ai _]) (by simp[results,results224,go_sem,c0,c1];exact⟨rfl,rfl⟩) rfl ?_;exact⟨rfl,((((below_alloc1 hb).setCell eA _).setCell eA _)).drew⟩
def qDu{n w}(I:-1000000<=n)(K:n<=1000000):
 aF 213 #[ai n] w (oB true) λw'=>w'=w:=by
 go_enter func213,ntmps213;go_wp2;go_ret;exact⟨rfl,rfl⟩
def JC n d w(I:-1000000<=n)(K:n<=1000000)(M:-1000000<=d)(O:d<=1000000):
 aG 175 #[aQ #[ai n,ai d]] w (aQ #[ai n,ai d]):=by
 go_enter func175,ntmps175;go_wp2;refine aU (by simp[results,results175,go_sem]) rfl ⟨rfl,?_⟩;go_grown
def QF n{w}(I:-9000000000000000000<=n)(K:n<=9000000000000000000):
 aF 212 #[ai n] w (ai n.natAbs) λw'=>w'=w:=by
 by_cases h:n<0
 .go_enter func212,ntmps212;go_wp2;go_ret;exact⟨qa Oo,rfl⟩
 go_enter func212,ntmps212;go_wp2;go_ret;exact⟨qa Oo,rfl⟩
def VP:∀k a b w,b.natAbs<k->0<=a->a<=9000000000000000000->0<=b->b<=9000000000000000000->
 aF 211 #[ai a,ai b] w (ai (Int.gcd a b)) λw'=>w'=w
 |0,_,_,_,h,_,_,_,_=>absurd h Oo
 |k+1,a,b,w,hk,ha,ha',hb,hb'=>by
  by_cases h:b=0
  .subst h;have O:=ay (RatM.gcd_zero a);go_enter func211,ntmps211;go_wp2;go_ret;exact⟨qa (by rw[O.o];omega),rfl⟩
  have V:(b == 0)=false:=by simpa using h
  have M:a.tmod b=a % b:=Int.tmod_eq_emod_of_nonneg ha;have K:=RatM.natAbs_tmod_lt a b h;have hs:=RatM.gcd_step a b;have I:0<=a.tmod b:=Int.tmod_nonneg _ ha;rw[M]at K hs I;clear M;change Hh _ at hs;go_enter func211,ntmps211;go_wp2_with fail;apply (ay (VP k b (a % b) w Oo hb hb' I Oo)).o.mn;intro w' rfl;go_wp2;go_ret;exact⟨qa (by rw[hs.o]),rfl⟩
def qCy{a b}g{w}(K:0<=a)(I:a<=9000000000000000000)(hb:0<=b)(hb':b<=9000000000000000000)(M:(Int.gcd a b:Int)=g):
 aF 211 #[ai a,ai b] w (ai g) λw'=>w'=w:=by
 subst M;exact VP (b.natAbs+1) a b w Oo K I hb hb'
def uM{n d w}(hn:-9000000000000000000<=n)(K:n<=9000000000000000000)(hd:-9000000000000000000<=d)(M:d<=9000000000000000000)(h0:d≠0):
 aG 170 #[ai n,ai d] w (aQ #[ai (RatM.frN n d),ai (RatM.frD n d)]):=by
 have a5:=RatM.gcd_pos n d h0;have hg1:=RatM.gcd_le n d h0;have⟨q1,q2⟩:=XY n (Int.gcd n d) hn K;have⟨q3,q4⟩:=XY d (Int.gcd n d) hd M;have HG:Hh ((Int.gcd (n.natAbs:Int) (d.natAbs:Int):Int)=(Int.gcd n d:Int)):=by rw[RatM.gcd_abs];exact rfl
 by_cases I:d<0
 .have O:RatM.frN n d=-(n.tdiv (Int.gcd n d)):=by unfold RatM.frN;rw[fE I,sK]
  have V:RatM.frD n d=-(d.tdiv (Int.gcd n d)):=by unfold RatM.frD;rw[fE I,sK]
  rw[O,V];clear O V;generalize (Int.gcd n d:Int)=g at *;have a4:(g == 0)=false:=Sy;have a3:(-g == 0)=false:=Sy;go_enter func170,ntmps170;go_wp2_with fail;apply (QF n hn K).mn;intro w1 rfl;go_wp2_with fail;apply (QF d hd M).mn;intro w1 rfl;go_wp2_with fail;apply (qCy g Oo Oo Oo Oo HG.o).mn;intro w1 rfl;go_wp2;go_region
  go_wp2;refine aU (by simp[results,results170,go_sem]) rfl ⟨rfl,?_⟩;go_grown
 have O:RatM.frN n d=n.tdiv (Int.gcd n d):=by unfold RatM.frN;rw[fF I]
 have V:RatM.frD n d=d.tdiv (Int.gcd n d):=by unfold RatM.frD;rw[fF I]
 rw[O,V];clear O V;generalize (Int.gcd n d:Int)=g at *;have a4:(g == 0)=false:=Sy;have a3:(-g == 0)=false:=Sy;go_enter func170,ntmps170;go_wp2_with fail;apply (QF n hn K).mn;intro w1 rfl;go_wp2_with fail;apply (QF d hd M).mn;intro w1 rfl;go_wp2_with fail;apply (qCy g Oo Oo Oo Oo HG.o).mn;intro w1 rfl;go_wp2;go_region
 go_wp2;refine aU (by simp[results,results170,go_sem]) rfl ⟨rfl,?_⟩;go_grown
def zP{x lo hi w}(I:lo<=x)(K:x<=hi):
 aF 27 #[ai x,ai lo,ai hi] w (oB true) λw'=>w'=w:=by
 go_enter func27,ntmps27;go_wp2;go_ret;exact⟨rfl,rfl⟩
def VQ{n d w}:
 aG 38 #[aQ #[ai n,ai d],aQ #[ai n,ai d]] w (oB true):=by
 have I:(n != n)=false:=Ss;have hd:(d != d)=false:=Ss;go_enter func38,ntmps38;go_wp2;go_ret;exact⟨rfl,by go_grown⟩
def bt{a b c}(h:Bl a b)(k:Bl b c):Bl a c:=h.trans (k.mono h.size)
def OkR(n d:Int):Prop:=1<=d/\d<=1000000/\-1000000<=n/\n<=1000000/\Int.gcd n d=1
def QG n d{w}(h:OkR n d):
 aG 181 #[aQ #[ai n,ai d]] w (oB true):=by
 have⟨M,O,V,h4,I⟩:=h;have K:Hh ((Int.gcd n d:Int)=1):=by rw[I];exact rfl
 clear I;go_enter func181,ntmps181;go_wp2_with (first|go_at_call 213;apply (qDu (by assumption) (by assumption)).mono;rintro e w' ⟨rfl,rfl⟩|go_at_call 223;apply (qBB n d 1 Oo Oo Oo Oo K.o).mono;rintro e w' ⟨rfl,hb⟩);go_ret;exact⟨rfl,below_alloc1 hb⟩
def vL{x lo hi w}(I:x<lo):
 aF 27 #[ai x,ai lo,ai hi] w (oB nF) λw'=>w'=w:=by
 have hd:oD (lo<=x)=false:=Sy;go_enter func27,ntmps27;go_wp2;go_ret;exact⟨rfl,rfl⟩
def vM{x lo hi w}(I:lo<=x)(K:hi<x):
 aF 27 #[ai x,ai lo,ai hi] w (oB nF) λw'=>w'=w:=by
 have hd:oD (x<=hi)=false:=Sy;go_enter func27,ntmps27;go_wp2;go_ret;exact⟨rfl,rfl⟩
def qJQ a b{B C}(I:-B<=a)(K:a<=B)(M:-C<=b)(O:b<=C):-(B*C)<=a*b/\a*b<=B*C:=by
 have e:=nO a b;have V:a.natAbs*b.natAbs<=B.natAbs*C.natAbs:=mU Oo Oo;have h6:B*C=((B.natAbs*C.natAbs:Nat):Int):=by
  rw[Int.natCast_mul,show(B.natAbs:Int)=B by omega,show(C.natAbs:Int)=C by omega]
 omega
def UP a b(I:-1000000<=a)(K:a<=1000000)(M:-1000000<=b)(O:b<=1000000):-1000000000000<=a*b/\a*b<=1000000000000:=
 qJQ a b I K M O
def below_alloc3{w w' o p q}(hb:Below (J (((S w o).alloc p).alloc q).1) (((S w o).alloc p).alloc q) w'):Bl w w':=
 (((aK).alloc Ss _).alloc Sy _).trans (hb.mono Sy)
def below_alloc2{w w' o p}(hb:Below (J ((S w o).alloc p).1) ((S w o).alloc p) w'):Bl w w':=
 ((aK).alloc Ss _).trans (hb.mono Sy)
def PlC(f:Nat):Prop:=∀(a b c d:Int) (w:oX),-4500000000000000000<=a*d->a*d<=4500000000000000000->-4500000000000000000<=c*b->c*b<=4500000000000000000->-4500000000000000000<=b*d->b*d<=4500000000000000000->b*d≠0->aG f #[aQ #[ai a,ai b],aQ #[ai c,ai d]] w (aQ #[ai (RatM.frN (a*d+c*b) (b*d)),ai (RatM.frD (a*d+c*b) (b*d))])
def PlC.both:PlC 222/\PlC 142:=by
 refine⟨λa b c d w m1 I m2 K m3 M O=>?_,λa b c d w m1 I m2 K m3 M O=>?_⟩;focus
  go_enter func222,ntmps222
  go_wp2_with fail
  apply (yS Oo Oo Oo Oo O).mono
 rotate_left;focus
  go_enter func142,ntmps142
  go_wp2_with fail
  apply (uM Oo Oo Oo Oo O).mono
 all_goals
  rintro e w1 ⟨rfl,hb⟩
  have⟨V,hf⟩:=xi hb
  have c0:aC w1 (J w.1+1+1) 0 (ai 0):=(V _ 0 Ss).trans Sg
  have c1:aC w1 (J w.1+1+1) 1 (ai 0):=(V _ 1 Ss).trans Sg
  go_wp2
  refine aU (by simp[results,results222,results142,go_sem,c0,c1]) rfl ⟨rfl,?_⟩
  exact((below_alloc3 hb).setCell Sy _).setCell Sy _
def VR:PlC 222:=PlC.both.1
def qCI:PlC 142:=PlC.both.2
def MiC(f:Nat):Prop:=∀(a b c d:Int) (w:oX),-4500000000000000000<=a*d->a*d<=4500000000000000000->-4500000000000000000<=c*b->c*b<=4500000000000000000->-4500000000000000000<=b*d->b*d<=4500000000000000000->b*d≠0->aG f #[aQ #[ai a,ai b],aQ #[ai c,ai d]] w (aQ #[ai (RatM.frN (a*d-c*b) (b*d)),ai (RatM.frD (a*d-c*b) (b*d))])
def MiC.both:MiC 182/\MiC 173:=by
 refine⟨λa b c d w m1 I m2 K m3 M O=>?_,λa b c d w m1 I m2 K m3 M O=>?_⟩;focus
  go_enter func182,ntmps182
  go_wp2_with fail
  apply (yS Oo Oo Oo Oo O).mono
 rotate_left;focus
  go_enter func173,ntmps173
  go_wp2_with fail
  apply (uM Oo Oo Oo Oo O).mono
 all_goals
  rintro e w1 ⟨rfl,hb⟩
  have⟨V,hf⟩:=xi hb
  have c0:aC w1 (J w.1+1+1) 0 (ai 0):=(V _ 0 Ss).trans Sg
  have c1:aC w1 (J w.1+1+1) 1 (ai 0):=(V _ 1 Ss).trans Sg
  go_wp2
  refine aU (by simp[results,results182,results173,go_sem,c0,c1]) rfl ⟨rfl,?_⟩
  exact((below_alloc3 hb).setCell Sy _).setCell Sy _
def Xw:MiC 182:=MiC.both.1
def qBC:MiC 173:=MiC.both.2
def TiC(f:Nat):Prop:=∀(a b c d:Int) (w:oX),-4500000000000000000<=a*c->a*c<=4500000000000000000->-4500000000000000000<=b*d->b*d<=4500000000000000000->b*d≠0->aG f #[aQ #[ai a,ai b],aQ #[ai c,ai d]] w (aQ #[ai (RatM.frN (a*c) (b*d)),ai (RatM.frD (a*c) (b*d))])
def TiC.both:TiC 283/\TiC 174:=by
 refine⟨λa b c d w V I m2 K M=>?_,λa b c d w V I m2 K M=>?_⟩;focus
  go_enter func283,ntmps283
  go_wp2_with fail
  apply (yS Oo Oo Oo Oo M).mono
 rotate_left;focus
  go_enter func174,ntmps174
  go_wp2_with fail
  apply (uM Oo Oo Oo Oo M).mono
 all_goals
  rintro e w1 ⟨rfl,hb⟩
  have⟨O,hf⟩:=xi hb
  have c0:aC w1 (J w.1+1+1) 0 (ai 0):=(O _ 0 Ss).trans Sg
  have c1:aC w1 (J w.1+1+1) 1 (ai 0):=(O _ 1 Ss).trans Sg
  go_wp2
  refine aU (by simp[results,results283,results174,go_sem,c0,c1]) rfl ⟨rfl,?_⟩
  exact((below_alloc3 hb).setCell Sy _).setCell Sy _
def qCJ:TiC 283:=TiC.both.1
def qBD:TiC 174:=TiC.both.2
def qDv{a b c d}w(V:-4500000000000000000<=a*d)(K:a*d<=4500000000000000000)(m2:-4500000000000000000<=b*c)(M:b*c<=4500000000000000000)(O:b*c≠0):
 aG 282 #[aQ #[ai a,ai b],aQ #[ai c,ai d]] w (aQ #[ai (RatM.frN (a*d) (b*c)),ai (RatM.frD (a*d) (b*c))]):=by
 go_enter func282,ntmps282;go_wp2_with fail;apply (yS Oo Oo Oo Oo O).mn;intro w1 hb;have⟨I,hf⟩:=xi hb;have c0:aC w1 (J w.1+1+1) 0 (ai 0):=(I _ 0 Ss).trans Sg;have c1:aC w1 (J w.1+1+1) 1 (ai 0):=(I _ 1 Ss).trans Sg;go_wp2;refine aU (by simp[results,results282,go_sem,c0,c1]) rfl ⟨rfl,?_⟩;exact((below_alloc3 hb).setCell Sy _).setCell Sy _
def qCK{a b c d}w(V:-4500000000000000000<=a*d)(K:a*d<=4500000000000000000)(m2:-4500000000000000000<=b*c)(M:b*c<=4500000000000000000)(O:b*c≠0):
 aG 172 #[aQ #[ai a,ai b],aQ #[ai c,ai d]] w (aQ #[ai (RatM.frN (a*d) (b*c)),ai (RatM.frD (a*d) (b*c))]):=by
 go_enter func172,ntmps172;go_wp2_with fail;apply (uM Oo Oo Oo Oo O).mn;intro w1 hb;have⟨I,hf⟩:=xi hb;have c0:aC w1 (J w.1+1+1) 0 (ai 0):=(I _ 0 Ss).trans Sg;have c1:aC w1 (J w.1+1+1) 1 (ai 0):=(I _ 1 Ss).trans Sg;go_wp2;refine aU (by simp[results,results172,go_sem,c0,c1]) rfl ⟨rfl,?_⟩;exact((below_alloc3 hb).setCell Sy _).setCell Sy _
def VS n d w:
 aG 183 #[aQ #[ai n,ai d]] w (ai (RatM.sgn n)):=by
 go_enter func183,ntmps183;go_wp2;all_goals
  go_ret
  exact⟨qa (by unfold RatM.sgn;repeat' split;all_goals omega),by go_grown⟩
def qCL{a b c d}w(M:-4500000000000000000<=a*d)(I:a*d<=4500000000000000000)(O:-4500000000000000000<=c*b)(K:c*b<=4500000000000000000):
 aG 75 #[aQ #[ai a,ai b],aQ #[ai c,ai d]] w (oB (oD (a*d<c*b))):=by
 go_enter func75,ntmps75;go_wp2;go_ret;exact⟨rfl,by go_grown⟩
def qCz a b c d(h:OkR a b)(K:OkR c d):
 (-1000000000000<=a*d/\a*d<=1000000000000)/\(-1000000000000<=c*b/\c*b<=1000000000000)/\(0<b*d/\b*d<=1000000000000):=by
 have⟨h1,I,M,O,_⟩:=h;have⟨k1,k2,V,k4,_⟩:=K;exact⟨UP a d M O Oo k2,UP c b V k4 Oo I,Int.mul_pos Oo Oo,(UP b d Oo I Oo k2).2⟩
def qJR{n d}(I:0<d):OkR (RatM.frN n d) (RatM.frD n d)↔(-1000000<=RatM.frN n d/\RatM.frN n d<=1000000/\-1000000<=RatM.frD n d/\RatM.frD n d<=1000000):=by
 have K:=RatM.frD_pos n d Oo;have M:=RatM.fr_coprime n d Oo;unfold OkR;omega
def qGV{a b c d}w(h:OkR a b)(h':OkR c d)(hs:OkR (RatM.frN (a*d+c*b) (b*d)) (RatM.frD (a*d+c*b) (b*d))):
 aG 180 #[aQ #[ai a,ai b],aQ #[ai c,ai d]] w (aQ #[ai (RatM.frN (a*d+c*b) (b*d)),ai (RatM.frD (a*d+c*b) (b*d))]):=by
 have⟨⟨m1,a8⟩,⟨m2,a9⟩,m3,b1⟩:=qCz a b c d h h';change Hh _ at h h';rw[qJR m3]at hs;have⟨x,O⟩:=Ex (RatM.frN (a*d+c*b) (b*d));have⟨y,V⟩:=Ex (RatM.frD (a*d+c*b) (b*d));rw[<-O,<-V]at hs;rw[<-O,<-V];have⟨p1,p2,p3,p4⟩:=hs;have PL:Hh (∀w,Cl 222 #[aQ #[ai a,ai b],aQ #[ai c,ai d]] w λe w'=>e=rE (aQ #[ai x,ai y])/\Bl w w'):=by
  intro w;rw[O,V];exact VR a b c d w Oo Oo Oo Oo Oo Oo Oo
 clear O V;go_enter func180,ntmps180;go_wp2_with fail;apply (QG a b h.o).mn;intro w1 K;have⟨hc1,a3⟩:=xi K;have d0:aC w1 (J w.1+1) 0 (ai c):=(hc1 _ 0 Ss).trans Sg;have d1:aC w1 (J w.1+1) 1 (ai d):=(hc1 _ 1 Ss).trans Sg;clear hc1 a3;go_wp2_with fail;apply (QG c d h'.o).mn;intro w2 a4;have M:=bt K a4;have⟨I,a5⟩:=xi M;have d2:aC w2 (J w.1+1) 0 (ai c):=(I _ 0 Ss).trans Sg;have d3:aC w2 (J w.1+1) 1 (ai d):=(I _ 1 Ss).trans Sg;have d4:aC w2 (J w.1) 0 (ai a):=(I _ 0 Sy).trans Sg;have d5:aC w2 (J w.1) 1 (ai b):=(I _ 1 Sy).trans Sg;clear I a5;go_wp2_with fail;apply (PL.o _).mn;intro w4 a6;go_wp2_with fail;apply (JC x y _ p1 p2 p3 p4).mn;intro wE a7;have hb:=bt (bt M a6) a7;have⟨hc,hf⟩:=xi hb;have c0:aC wE (J w.1+1+1) 0 (ai 0):=(hc _ 0 Ss).trans Sg;have c1:aC wE (J w.1+1+1) 1 (ai 0):=(hc _ 1 Ss).trans Sg;go_wp2;refine aU (by simp[results,results180,go_sem,c0,c1]) rfl ⟨rfl,?_⟩;exact((below_alloc3 hb).setCell Sy _).setCell Sy _
def Xx n d w:
 aG 32 #[aQ #[ai n,ai d]] w (aQ #[ai n,ai d]):=by
 go_enter func32,ntmps32;go_wp2;refine aU (by simp[results,results32,go_sem]) rfl ⟨rfl,?_⟩;go_grown
def qBE{a b c d}w(h:OkR a b)(O:OkR c d):
 aG 153 #[aQ #[ai a,ai b],aQ #[ai c,ai d]] w (ai (RatM.sgn (a*d-c*b))):=by
 have⟨⟨m1,a8⟩,⟨m2,a9⟩,m3,b1⟩:=qCz a b c d h O;change Hh _ at h O;have⟨x,V⟩:=Ex (RatM.frN (a*d-c*b) (b*d));have⟨y,hy⟩:=Ex (RatM.frD (a*d-c*b) (b*d));have PL:Hh (∀w,Cl 182 #[aQ #[ai a,ai b],aQ #[ai c,ai d]] w λe w'=>e=rE (aQ #[ai x,ai y])/\Bl w w'):=by
  intro w;rw[V,hy];exact Xw a b c d w Oo Oo Oo Oo Oo Oo Oo
 have HR:=ay (RatM.sgn_congr x (a*d-c*b) (by rw[V];exact RatM.frN_sign _ _ m3));clear V hy;go_enter func153,ntmps153;go_wp2_with fail;apply (QG a b h.o).mn;intro w1 K;have⟨hc1,a3⟩:=xi K;have d0:aC w1 (J w.1+1) 0 (ai c):=(hc1 _ 0 Ss).trans Sg;have d1:aC w1 (J w.1+1) 1 (ai d):=(hc1 _ 1 Ss).trans Sg;clear hc1 a3;go_wp2_with fail;apply (QG c d O.o).mn;intro w2 a4;have M:=bt K a4;have⟨I,a5⟩:=xi M;have d2:aC w2 (J w.1+1) 0 (ai c):=(I _ 0 Ss).trans Sg;have d3:aC w2 (J w.1+1) 1 (ai d):=(I _ 1 Ss).trans Sg;have d4:aC w2 (J w.1) 0 (ai a):=(I _ 0 Sy).trans Sg;have d5:aC w2 (J w.1) 1 (ai b):=(I _ 1 Sy).trans Sg;clear I a5;go_wp2_with fail;apply (PL.o _).mn;intro w4 a6;go_wp2_with fail;apply (VS x y _).mn;intro wE a7;go_wp2;go_ret;exact⟨qa HR,below_alloc2 (bt (bt M a6) a7)⟩
end Go.Proofs.YtfpjpngjikdaoaaGreat
namespace Go.Proofs.YtfpjpngjikdaoaaGreat.Cov
structure Dm where
 a:NR
 up:Bool
 b:Rat
def Dm.at(n:Nat)(D:Dm)(x:NR):Rat:=sm n (λi=>D.a i*x i)
def Dm.meets(n:Nat)(D:Dm)(x:NR):Prop:=if D.up then D.at n x<=D.b else D.b<=D.at n x
def Kern(n:Nat)(sS:List Dm):Prop:=∀d:NR,(∀D∈sS,D.at n d=0)->∀i,i<n->d i=0
def XO:∀k a f,a<k+1->sm (k+1) f=f a+sm k (λb=>f (skip a b))
 |k,a,f,h=>by
  by_cases e:a=k;subst e;show sm a f+f a=f a+sm a (λb=>f (skip a b));have:sm a f=sm a (λb=>f (skip a b)):=sm_congr (λi hi=>by rw[show skip a i=i from fE hi]);rw[<-this];grind;obtain⟨I,rfl⟩:∃I,k=I+1:=⟨k-1,Oo⟩;have K:=XO I a f Oo;show sm (I+1) f+f (I+1)=f a+(sm I (λb=>f (skip a b))+f (skip a I));rw[K,show skip a I=I+1 from fF Oo];grind
def Xn a b:zG a (skip a b)=b:=by
 by_cases e:b<a;rw[show skip a b=b from fE e];exact fE e;rw[show skip a b=b+1 from fF e,show zG a (b+1)=b+1-1 from fF Oo];omega
def kH n(D:Dm)x y t:D.at n (λi=>x i+t*y i)=D.at n x+t*D.at n y:=by
 unfold Dm.at;have e:(λi=>D.a i*(x i+t*y i))=λi=>D.a i*x i+t*(D.a i*y i):=by funext i;grind
 rw[e,sm_add,sm_mul]
def qIt n k(D:Dm)(c:NR)(iE:NQ):D.at n (λi=>sm k (λa=>c a*iE a i))=sm k (λa=>c a*D.at n (iE a)):=by
 unfold Dm.at;have e:sm n (λi=>D.a i*sm k (λa=>c a*iE a i))=sm n (λi=>sm k (λa=>c a*(D.a i*iE a i))):=by
  refine sm_congr (λi _=>?_);rw[<-sm_mul];exact sm_congr (λa _=>Rr)
 rw[e,jw];exact sm_congr (λa _=>sm_mul _)
def at_congr{n}(D:Dm){x y}(h:∀i,i<n->x i=y i):D.at n x=D.at n y:=
 sm_congr (λi hi=>by rw[h i hi])
structure Compl(n:Nat)(L sS:List Dm)(k:Nat)(iE:NQ):Prop where
 C:E sS+k=n
 sub:sS.Sublist L
 orth:∀D∈L,∀a,a<k->D.at n (iE a)=0
 span:∀d:NR,(∀D∈sS,D.at n d=0)->∃c:NR,∀i,i<n->d i=sm k (λa=>c a*iE a i)
 indep:∀c:NR,(∀i,i<n->sm k (λa=>c a*iE a i)=0)->∀a,a<k->c a=0
def Ze n:∀L,∃sS k iE,Compl n L sS k iE
 |[]=>by
  refine⟨[],n,λa i=>if a=i then 1 else 0,Ss,List.Sublist.slnil,Ss,λd _=>⟨d,λi hi=>?_⟩,λc h a ha=>?_⟩;rw[kE hi];grind;have:=h a ha;rw[kE ha]at this;grind
 |D::L=>by
  have⟨sS,k,iE,h⟩:=Ze n L;by_cases hz:∀a,a<k->D.at n (iE a)=0
  .refine⟨sS,k,iE,h.C,h.sub.cons D,λD' I=>?_,h.span,h.indep⟩;rcases cH.1 I with rfl|I;exact hz;exact h.orth _ I
  have⟨a0,ha0⟩:=Classical.not_forall.1 hz;have⟨M,a3⟩:=Classical.not_imp.1 ha0;obtain⟨K,rfl⟩:∃K,k=K+1:=⟨k-1,Oo⟩;have hsk:∀b,b<K->skip a0 b<K+1:=λb hb=>by unfold skip;split <;> omega
  refine⟨D::sS,K,λb i=>iE (skip a0 b) i+(-(D.at n (iE (skip a0 b)) / D.at n (iE a0)))*iE a0 i,by have:=h.C;simp;omega,h.sub.cons_cons D,λD' I b hb=>?_,λd hd=>?_,λc V b hb=>?_⟩
  .rw[kH];rcases cH.1 I with rfl|I;grind;rw[h.orth D' I _ (hsk b hb),h.orth D' I a0 M];grind
  .have⟨c,V⟩:=h.span d (λD' I=>hd _ (mC _ I));refine⟨λb=>c (skip a0 b),λi hi=>?_⟩;have h0:c a0*D.at n (iE a0)+sm K (λb=>c (skip a0 b)*D.at n (iE (skip a0 b)))=0:=by
    rw[<-XO K a0 (λa=>c a*D.at n (iE a)) M,<-qIt,<-at_congr D V];exact hd D cY
   rw[V i hi,XO K a0 _ M];have e1:(λb=>c (skip a0 b)*(iE (skip a0 b) i+(-(D.at n (iE (skip a0 b)) / D.at n (iE a0)))*iE a0 i))=λb=>c (skip a0 b)*iE (skip a0 b) i+(-(iE a0 i / D.at n (iE a0)))*(c (skip a0 b)*D.at n (iE (skip a0 b))):=by funext b;grind
   rw[e1,sm_add,sm_mul];grind
  have O:=h.indep (λa=>if a=a0 then -(sm K (λb=>c b*D.at n (iE (skip a0 b)))) / D.at n (iE a0) else c (zG a0 a)) (λi hi=>by
   rw[XO K a0 _ M,fE rfl];have e1:sm K (λb=>(if skip a0 b=a0 then -(sm K (λb=>c b*D.at n (iE (skip a0 b)))) / D.at n (iE a0) else c (zG a0 (skip a0 b)))*iE (skip a0 b) i)=sm K (λb=>c b*iE (skip a0 b) i):=by
    refine sm_congr (λb _=>?_);rw[fF (by unfold skip;split <;> omega),Xn a0 b]
   rw[e1];have h2:=V i hi;have e2:(λb=>c b*(iE (skip a0 b) i+(-(D.at n (iE (skip a0 b)) / D.at n (iE a0)))*iE a0 i))=λb=>c b*iE (skip a0 b) i+(-(iE a0 i / D.at n (iE a0)))*(c b*D.at n (iE (skip a0 b))):=by funext b;grind
   rw[e2,sm_add,sm_mul]at h2;grind) _ (hsk b hb)
  rw[fF (by unfold skip;split <;> omega),Xn a0 b]at O;exact O
def sq_nonneg(g:Rat):0<=g*g:=by
 by_cases h:0<=g;exact iG h h;exact jg Rr Rr
def qGz(g:Rat):g<=g*g+1:=by
 have I:=sq_nonneg g;by_cases h:g<=1;grind;have:=iG (show 0<=g by grind) (show 0<=g-1 by grind);grind
def Yt{t s g:Rat}(I:0<=t)(K:t<=s / (g*g+1)):t*g<=s/\t*(-g)<=s:=by
 have M:=sq_nonneg g;have O:=iG (show 0<=s / (g*g+1)-t by grind) (show 0<=g*g+1 by grind);have V:s / (g*g+1)*(g*g+1)=s:=Rr;have h3:=iG I (show 0<=g*g+1-g by have:=qGz g;grind);have h4:=iG I (show 0<=g*g+1+g by have:=qGz (-g);grind);constructor <;> grind
def Yu n d x:∀L:List Dm,(∀D∈L,D.meets n x/\(D.at n x=D.b->D.at n d=0))->
 ∃t,0<t/\∀t',0<=t'->t'<=t->∀D∈L,D.meets n (λi=>x i+t'*d i)/\D.meets n (λi=>x i+(-t')*d i)
 |[],_=>⟨1,Dd,Ss⟩
 |D::L,h=>by
  have⟨t,ht,hL⟩:=Yu n d x L (λD' I=>h D' (mC _ I));have key:∃M:Rat,0<M/\∀t',0<=t'->t'<=M->D.meets n (λi=>x i+t'*d i)/\D.meets n (λi=>x i+(-t')*d i):=by
   have⟨V,h2⟩:=h D cY;by_cases e:D.at n x=D.b;refine⟨1,Dd,λt' _ _=>?_⟩;unfold Dm.meets;rw[kH,kH,h2 e,e];constructor <;> split <;> grind;unfold Dm.meets at V |-;have a3:=sq_nonneg (D.at n d);cases hu:D.up with
   |true=>
    rw[hu]at V;simp only[nI]at V |-;have K:0<D.b-D.at n x:=Rr;refine⟨(D.b-D.at n x) / (D.at n d*D.at n d+1),?_,λt' O h4=>?_⟩;rw[pG];exact Rat.mul_pos K (Rat.inv_pos.2 Rr);have⟨s1,s2⟩:=Yt O h4;rw[kH,kH];constructor <;> grind
   |false=>
    rw[hu]at V;simp only[nG,rO]at V |-;refine⟨(D.at n x-D.b) / (D.at n d*D.at n d+1),?_,λt' O h4=>?_⟩;rw[pG];exact Rat.mul_pos Rr (Rat.inv_pos.2 Rr);have⟨s1,s2⟩:=Yt O h4;rw[kH,kH];constructor <;> grind
  have⟨M,a4,hD⟩:=key;refine⟨if t<=M then t else M,by split <;> assumption,λt' O h4 D' I=>?_⟩;have h5:t'<=t/\t'<=M:=by
   split at h4 <;> constructor <;> grind
  rcases cH.1 I with rfl|I;exact hD _ O h5.2;exact hL _ O h5.1 _ I
def Ku{t}(V:0<t):∀l e,E l=E e->Lex l (zipWith (λa b=>a+t*b) l e)->Lex l (zipWith (λa b=>a+(-t)*b) l e)->∀z∈e,z=0
 |[],[],_,_,_,z,M=>by cases M
 |[],_::_,h,_,_,_,_=>by cases h
 |_::_,[],h,_,_,_,_=>by cases h
 |a::l,b::e,hl,h1,h2,z,M=>by
  have I:a<a+t*b\/(a=a+t*b/\Lex l (zipWith (λa b=>a+t*b) l e)):=h1;have K:a<a+(-t)*b\/(a=a+(-t)*b/\Lex l (zipWith (λa b=>a+(-t)*b) l e)):=h2;have hb:t*b=0/\Lex l (zipWith (λa b=>a+t*b) l e)/\Lex l (zipWith (λa b=>a+(-t)*b) l e):=by
   rcases I with I|⟨I,h3⟩ <;> rcases K with K|⟨K,h4⟩;exfalso;grind;exfalso;grind;exfalso;grind;exact⟨Rr,h3,h4⟩
  have O:b=0:=by
   rcases pK.1 hb.1 with e|e;grind;exact e
  rcases cH.1 M with rfl|M;exact O;exact Ku V l e (by simpa using hl) hb.2.1 hb.2.2 z M
def zip_map(f:Rat->Rat->Rat)(x d:NR):∀R:LN,zipWith f (R.map x) (R.map d)=R.map λk=>f (x k) (d k)
 |[]=>rfl
 |k::R=>by
  show f (x k) (d k)::zipWith f (R.map x) (R.map d)=_;rw[zip_map f x d R];rfl
def qHG v u x d t:key v u (λi=>x i+t*d i)=zipWith (λa b=>a+t*b) (key v u x) (key v u d):=by
 show(v*sm u (λi=>x i+t*d i))::_=(v*sm u x+t*(v*sm u d))::zipWith (λa b=>a+t*b) ((range u).map x) ((range u).map d);rw[zip_map,sm_add,sm_mul];congr 1;grind
def corner_exists{n v}all x(hx:∀D∈all,D.meets n x)(I:∀y,(∀D∈all,D.meets n y)->Lex (key v n x) (key v n y)):
 ∃sS,sS.Sublist all/\E sS=n/\(∀D∈sS,D.at n x=D.b)/\Kern n sS:=by
 have dec:∀D:Dm,Decidable (D.at n x=D.b):=λD=>Classical.propDecidable _;have⟨sS,k,iE,h⟩:=Ze n (all.filter λD=>@decide _ (dec D));cases k with
 |zero=>
  refine⟨sS,h.sub.trans filter_sublist,h.C,λD K=>?_,λd hd i hi=>?_⟩;have:=h.sub.subset K;simpa using (cK.1 this).2;have⟨c,hc⟩:=h.span d hd;exact hc i hi
 |succ k=>
  exfalso;have⟨t,ht,O⟩:=Yu n _ x _ (λD K=>⟨hx D K,λe=>h.orth D (cK.2 ⟨K,by simpa using e⟩) 0 Oo⟩);have V:=I _ (λD K=>(O t Rr Rr D K).1);have h2:=I _ (λD K=>(O t Rr Rr D K).2);rw[qHG]at V h2;have h4:∀i,i<n->iE 0 i=0:=by
   intro i hi;refine (Ku ht _ _ (by simp[key]) V h2) _ ?_;unfold key;exact mC _ (cC.2 ⟨i,by simpa using hi,rfl⟩)
  have h5:=h.indep (λa=>if a=0 then 1 else 0) (λi hi=>by
   rw[sm_single (k:=0) Oo];rw[h4 i hi];grind;intro a _ M;rw[fF M];grind) 0 Oo
  simp at h5
end Go.Proofs.YtfpjpngjikdaoaaGreat.Cov
namespace Go.Proofs.YtfpjpngjikdaoaaGreat.Cov
def qEU{m n o A}(ho:o+m<=n)(I:∀i,i<m->∀r,r<m->A (o+i) r=if i=r then 1 else 0):
 Inv m n A (λi j=>A j i) (λi=>o+i):=by
 refine⟨λi hi=>by show o+i<n;omega,λi hi k V=>?_,λj O r K=>?_,?_⟩
 .show A (o+k) i=_;rw[I k V i hi];by_cases e:i=k;rw[fE e,fE e.symm];rw[fF e,fF (λh=>e h.symm)]
 .show A j r=sm m (λi=>A j i*A (o+i) r);rw[sm_single (k:=r) K];rw[I r K r K,fE rfl];grind;intro i hi M;rw[I i hi r K,fF M];grind
 rw[ki (N:=λj i=>if j=i then 1 else 0) (λj O i hi=>I j O i hi),Vq];grind
def solveA(n:Nat)(R0:NQ):NQ:=λj r=>if j<n then R0 r j else if j<n+n then (if j-n=r then 1 else 0) else R0 r n
def cl(n j:Nat):Nat:=if j=n then n+n else j
structure GJ(n c:Nat)(R0 R:NQ)(T:NQ)(B s:NN)(piv:NR):Prop where
 inv:Inv n (n+n) (solveA n R0) T B
 lt:∀i,i<n->s i<n
 inj:∀i,i<n->∀k,k<n->s i=s k->i=k
 done:∀i,i<c->B (s i)=i
 todo:∀i,c<=i->i<n->B (s i)=n+s i
 rowd:∀i,i<c->∀j,j<=n->R i j=piv i*T (s i) (cl n j)
 rowt:∀i,c<=i->i<n->∀j,j<=n->R i j=T (s i) (cl n j)
 pivne:∀i,i<c->piv i≠0
 pivsm:∀i,i<c->∃D:Int,D≠0/\D.natAbs<=fac n/\Whole (fac n) (piv i*D)
def gj_start n R0:GJ n 0 R0 R0 (λi j=>solveA n R0 j i) (λi=>n+i) (λi=>i) (λ_=>1):=by
 refine⟨qEU eA (λi hi r I=>?_),λi hi=>hi,λi _ k _ h=>h,λi hi=>Oo,λi _ _=>rfl,λi hi=>Oo,λi _ hi j K=>?_,λi hi=>Oo,λi hi=>Oo⟩;unfold solveA;rw[fF Oo,fE Oo,show n+i-n=i by omega];unfold solveA cl;by_cases e:j=n;rw[fE e,fF Oo,fF Oo,e];rw[fF e,fE Oo]
def swp(s:NN)(c p:Nat):NN:=λi=>if i=c then s p else if i=p then s c else s i
def swpR(R:NQ)(c p:Nat):NQ:=λi=>if i=c then R p else if i=p then R c else R i
def elim(R:NQ)(c:Nat):NQ:=λi j=>if i=c\/R i c=0\/j<c then R i j else R i j-R i c / R c c*R c j
def gj_step{n c p R0 R T B s piv}(h:GJ n c R0 R T B s piv)(hw:∀j,j<=n->∀r,r<n->Whole 1 (R0 r j))(a8:c<=p)(hp:p<n)(a9:R p c≠0):
 GJ n (c+1) R0 (elim (swpR R c p) c) (pivT T (s p) c) (pivB B (s p) c) (swp s c p) (λi=>if i=c then T (s p) c else piv i):=by
 have b1:T (s p) c=R p c:=by
  rw[h.rowt p a8 hp c Oo];unfold cl;rw[fF Oo]
 have a4:T (s p) c≠0:=by rw[b1];exact a9
 have hc:c<n:=Oo;have M:∀i,i<n->i≠c->swp s c p i≠s p:=by
  intro i hi I e;unfold swp at e;rw[fF I]at e;by_cases O:i=p;rw[fE O]at e;have:=h.inj c hc p hp e;omega;rw[fF O]at e;exact O (h.inj i hi p hp e)
 have a3:∀i,i<n->i≠c->∀j,j<=n->swpR R c p i j=(if i<c then piv i else 1)*T (swp s c p i) (cl n j):=by
  intro i hi I j V;unfold swpR swp;rw[fF I,fF I];by_cases O:i=p;rw[fE O,fE O,fF Oo,h.rowt c Oo hc j V];grind;rw[fF O,fF O];by_cases e3:i<c;rw[fE e3,h.rowd i e3 j V];rw[fF e3,h.rowt i Oo hi j V];grind
 have a7:∀j,j<=n->swpR R c p c j=T (s p) (cl n j):=by
  intro j V;unfold swpR;rw[fE rfl,h.rowt p a8 hp j V]
 have a5:cl n c=c:=fF Oo;have a6:∀i,i<n->i≠c->∀j,j<=n->elim (swpR R c p) c i j=(if i<c then piv i else 1)*pivT T (s p) c (swp s c p i) (cl n j):=by
  intro i hi I j V;unfold pivT;rw[fF (M i hi I)];unfold elim;by_cases K:swpR R c p i c=0
  .rw[fE (.inr (.inl K)),a3 i hi I j V];rw[a3 i hi I c Oo,a5]at K;by_cases e3:i<c
   .rw[fE e3]at K |-;have:=h.pivne i e3;rcases pK.1 K with e|e;exact absurd e this;rw[e];grind
   rw[fF e3]at K |-;have:T (swp s c p i) c=0:=Rr;rw[this];grind
  by_cases O:j<c
  .rw[fE (.inr (.inr O)),a3 i hi I j V];have hz:T (s p) (cl n j)=0:=by
    rw[show cl n j=j from fF Oo];have:=h.inv.unit _ (h.lt p hp) _ (h.lt j Oo);rwa[h.done j O,fF (λe=>O1 (h.inj p hp j Oo e))]at this
   rw[hz];grind
  rw[fF (λe=>by rcases e with e|e|e;exact I e;exact K e;exact O e),a3 i hi I j V,a3 i hi I c Oo,a7 c Oo,a7 j V,a5];grind
 have⟨D,hD0,b7,b8⟩:=h.inv.small (λj V r hr=>by
  unfold solveA;split;exact hw j Oo r hr;split
  .split;exact⟨1,rfl,Dd⟩;exact⟨0,rfl,Dd⟩
  exact hw n eA r hr)
 refine⟨h.inv.pivot (h.lt p hp) Oo a4,λi hi=>?_,λi hi k hk e=>?_,λi hi=>?_,λi h1 h2=>?_,λi hi j V=>?_,λi h1 h2 j V=>?_,λi hi=>?_,λi hi=>?_⟩
 .unfold swp;split;exact h.lt p hp;split;exact h.lt c hc;exact h.lt i hi
 .by_cases K:i=c
  .by_cases O:k=c;omega;exfalso;rw[show swp s c p i=s p from fE K]at e;exact M k hk O e.symm
  by_cases O:k=c;exfalso;rw[show swp s c p k=s p from fE O]at e;exact M i hi K e;unfold swp at e;rw[fF K,fF O]at e;by_cases e3:i=p
  .by_cases e4:k=p;omega;rw[fE e3,fF e4]at e;exact absurd (h.inj c hc k hk e) Oo
  by_cases e4:k=p;rw[fF e3,fE e4]at e;exact absurd (h.inj i hi c hc e) Oo;rw[fF e3,fF e4]at e;exact h.inj i hi k hk e
 .by_cases K:i=c;rw[show swp s c p i=s p from fE K];show(if s p=s p then c else _)=i;rw[fE rfl,K];have h3:=M i Oo K;show(if swp s c p i=s p then c else B (swp s c p i))=i;rw[fF h3,show swp s c p i=s i by unfold swp;rw[fF K,fF Oo]];exact h.done i Oo
 .have h3:=M i h2 Oo;show(if swp s c p i=s p then c else B (swp s c p i))=n+swp s c p i;rw[fF h3];unfold swp;rw[fF Oo];split;exact h.todo c Oo hc;exact h.todo i Oo h2
 .by_cases K:i=c;subst K;rw[show elim (swpR R i p) i i j=swpR R i p i j from fE (.inl rfl),a7 j V,fE rfl,show swp s i p i=s p from fE rfl];rw[show pivT T (s p) i (s p) (cl n j)=T (s p) (cl n j) / T (s p) i from fE rfl];grind;rw[a6 i Oo K j V,fE Oo,fF K]
 rw[a6 i h2 Oo j V,fF Oo];grind
 .split;exact a4;exact h.pivne i Oo
 split;exact⟨D,hD0,b7,b8 _ (h.lt p hp) c Oo⟩;exact h.pivsm i Oo
def gj_stuck{n c R0 R T B s piv}(h:GJ n c R0 R T B s piv)(hc:c<n)(hz:∀p,c<=p->p<n->R p c=0):
 ∃d:NR,d c=1/\∀r,r<n->sm n (λj=>R0 r j*d j)=0:=by
 have V:∀i,i<n->(∃k,k<n/\s k=i):=by
  intro i hi;by_cases hex:∃k,k<n/\s k=i;exact hex;exfalso;have I:∀k,k<n->s k≠i:=λk O e=>hex ⟨k,O,e⟩;obtain⟨n',rfl⟩:∃n',n=n'+1:=⟨n-1,Oo⟩;have⟨p,q,K,h2,h3⟩:=Kf n' (λk=>zG i (s k)) (λk O=>by
   have K:=h.lt k Oo;have h2:=I k Oo;show zG i (s k)<n';unfold zG;split <;> omega)
  have h4:=I p Oo;have h5:=I q Oo;have h6:s p=s q:=by
   have M:=h3;unfold zG at M;split at M <;> split at M <;> omega
  have:=h.inj p Oo q Oo h6;omega
 have a3:∀p,c<=p->p<n->T (s p) c=0:=by
  intro p K h2;have:=h.rowt p K h2 c Oo;rw[hz p K h2,show cl n c=c from fF Oo]at this;exact this.symm
 have a4:∀i,i<n->B i≠c:=by
  intro i hi e;obtain⟨k,O,rfl⟩:=V i hi;by_cases e2:k<c;rw[h.done k e2]at e;omega;rw[h.todo k Oo O]at e;omega
 refine⟨ray n T B c,?_,λr hr=>?_⟩;unfold ray;rw[fE rfl,val_not a4];grind;have K:=h.inv.hom_ray (show c<n+n by omega) r hr;rw[sm_app]at K;have e1:sm n (λi=>ray n T B c (n+i)*solveA n R0 (n+i) r)=0:=by
  refine sm_zero (λi hi=>?_);have:ray n T B c (n+i)=0:=by
   unfold ray;rw[fF Oo];have:val n (λi=>- T i c) B (n+i)=0:=by
    refine sm_zero (λk O=>?_);split
    .rename_i e;obtain⟨q,hq,rfl⟩:=V k O;by_cases e2:q<c;rw[h.done q e2]at e;omega;show-T (s q) c=0;rw[a3 q Oo hq];grind
    rfl
   rw[this];grind
  rw[this];grind
 rw[e1]at K;have e2:sm n (λj=>R0 r j*ray n T B c j)=sm n (λj=>ray n T B c j*solveA n R0 j r):=sm_congr (λj hj=>by
  unfold solveA;rw[fE hj];grind)
 rw[e2];grind
def gj_end{n R0 R T B s piv}(h:GJ n n R0 R T B s piv):
 (∀i,i<n->R i i≠0/\R i n / R i i=T (s i) (n+n))/\
 ∀x:NR,(∀r,r<n->sm n (λj=>R0 r j*x j)=R0 r n)->∀i,i<n->x i=T (s i) (n+n):=by
 have hd:∀i,i<n->∀j,j<n->T (s i) j=if i=j then 1 else 0:=by
  intro i hi j I;have:=h.inv.unit _ (h.lt i hi) _ (h.lt j I);rw[h.done j I]at this;rw[this];by_cases e:i=j;rw[fE e,fE (by rw[e])];rw[fF e,fF (λK=>e (h.inj i hi j I K))]
 refine⟨λi hi=>?_,λx hx i hi=>?_⟩;have M:=h.rowd i hi i Oo;have h2:=h.rowd i hi n eA;rw[show cl n i=i from fF Oo,hd i hi i hi,fE rfl]at M;rw[show cl n n=n+n from fE rfl]at h2;have h3:=h.pivne i hi;rw[M,h2];constructor <;> grind;have hs:Sol n (n+n) (solveA n R0) (λj=>if j<n then x j else 0):=by
  intro r hr;rw[sm_app];have O:sm n (λj=>(if j<n then x j else 0)*solveA n R0 j r)=sm n (λj=>R0 r j*x j):=sm_congr (λj I=>by
   unfold solveA;rw[fE I,fE I];grind)
  have K:sm n (λi=>(if n+i<n then x (n+i) else 0)*solveA n R0 (n+i) r)=0:=sm_zero (λi _=>by rw[fF Oo];grind);rw[O,K,hx r hr];unfold solveA;rw[fF Oo,fF Oo];grind
 have M:=h.inv.sol_rows hs _ (h.lt i hi);rw[<-M,sm_app];have O:sm n (λj=>T (s i) j*(if j<n then x j else 0))=x i:=by
  rw[sm_single (k:=i) hi];rw[hd i hi i hi,fE rfl,fE hi];grind;intro j I V;rw[hd i hi j I,fF (λe=>V e.symm)];grind
 have K:sm n (λk=>T (s i) (n+k)*(if n+k<n then x (n+k) else 0))=0:=sm_zero (λk _=>by rw[fF Oo];grind);rw[O,K];grind
end Go.Proofs.YtfpjpngjikdaoaaGreat.Cov
namespace Go.Proofs.YtfpjpngjikdaoaaGreat
open Go.Proofs.Tryz Go.RowKit
def enc(q:Rat):oV:=aQ #[ai q.num,ai q.den]
def qBt(b:Int)(g:Nat)(h:0<=b):b.tdiv (g:Int)=((b.natAbs / g:Nat):Int):=by
 have e:=Int.ofNat_tdiv b.natAbs g;rw[show((b.natAbs:Nat):Int)=b by omega]at e;rw[<-e]
def qEO a b(h:b≠0):RatM.frN a b=(Rat.divInt a b).num/\RatM.frD a b=((Rat.divInt a b).den:Int):=by
 have hd:((Int.gcd a b:Nat):Int) ∣ a:=Int.gcd_dvd_left ..;have I:=RatM.gcd_pos a b h;rw[Rat.num_divInt,Rat.den_divInt,fF h,Int.gcd_comm b a];unfold RatM.frN RatM.frD;by_cases hb:b<0
 .rw[fE hb,fE hb,Int.sign_eq_neg_one_of_neg hb];refine⟨?_,?_⟩;rw[Int.tdiv_eq_ediv_of_dvd ((Int.dvd_neg).2 hd)];congr 1;omega;rw[show -b=((b.natAbs:Nat):Int)by omega,Int.ofNat_tdiv]
 rw[fF hb,fF hb,Int.sign_eq_one_of_pos Oo];refine⟨?_,?_⟩;rw[Int.tdiv_eq_ediv_of_dvd hd];congr 1;omega;generalize Int.gcd a b=g;rw[qBt b g Oo]
def jH a b(h:b≠0)q(hq:q=Rat.divInt a b):(aQ #[ai (RatM.frN a b),ai (RatM.frD a b)]:oV)=enc q:=by
 have⟨I,K⟩:=qEO a b h;unfold enc;rw[I,K,hq]
def Sm(B:Nat)(q:Rat):Prop:=q.num.natAbs<=B/\q.den<=B
def Sm.mono{B C q}(h:Sm B q)(I:B<=C):Sm C q:=⟨O1 h.1,O1 h.2⟩
def xF{a b B C}(I:a.natAbs<=B)(hb:b.natAbs<=C)(K:B*C<=4500000000000000000):-4500000000000000000<=a*b/\a*b<=4500000000000000000:=by
 have M:(a*b).natAbs<=B*C:=by rw[nO];exact mU I hb
 omega
def zb{q}{D:Int}{iZ B}(K:D≠0)(hD:D.natAbs<=B)(hz:Cov.Whole iZ (q*D))(hZ:iZ<=B):Sm B q:=by
 have⟨z,h1,h2⟩:=hz;have I:((q.den:Nat):Int)≠0:=O1 q.den_nz
 have e:Rat.divInt q.num q.den=Rat.divInt z D:=by
  rw[aH,Rat.divInt_eq_div];have:((D:Int):Rat)≠0:=by
   intro e;apply K;have:=congrArg Rat.num e;simpa using this
  rw[<-h1];grind
 rw[Rat.divInt_eq_divInt_iff I K]at e;have hc:=q.reduced;have M:q.den ∣ D.natAbs:=by
  have:q.den ∣ q.num.natAbs*D.natAbs:=by
   rw[<-nO,e,nO,nS];exact Nat.dvd_mul_left _ _
  exact(Nat.Coprime.symm hc).dvd_of_dvd_mul_left this
 have O:q.num.natAbs ∣ z.natAbs:=by
  have:q.num.natAbs ∣ z.natAbs*q.den:=by
   have e2:=congrArg Int.natAbs e;rw[nO,nO,nS]at e2;rw[<-e2];exact Nat.dvd_mul_right _ _
  exact hc.dvd_of_dvd_mul_right this
 refine⟨?_,?_⟩
 .by_cases V:z=0
  .rw[V,Int.zero_mul]at e;rcases Int.mul_eq_zero.1 e with e|e;rw[e];simp;exact absurd e K
  have:=Nat.le_of_dvd Oo O;omega
 have:=Nat.le_of_dvd Oo M;omega
def qDQ{p m d:Rat}(I:d≠0)(h:m / d=p):p*d=m:=Rr
def Vr p:p*(((p.den:Nat):Int):Rat)=((p.num:Int):Rat):=by
 have h:=aH p;rw[Rat.divInt_eq_div]at h;have I:(((p.den:Nat):Int):Rat)≠0:=by
  intro e;have:=congrArg Rat.num e;have K:=p.den_nz;simp at this;omega
 exact qDQ I h
def Sm.mul{B C p q}(I:Sm B p)(hq:Sm C q):Sm (B*C) (p*q):=by
 refine zb (D:=(p.den*q.den:Nat)) ?_ ?_ ⟨p.num*q.num,?_,?_⟩ eA;have:=Nat.mul_ne_zero p.den_nz q.den_nz;omega;rw[nS];exact mU I.2 hq.2
 .have O:=Vr p;have V:=Vr q;have e3:(((p.den*q.den:Nat):Int):Rat)=(((p.den:Nat):Int):Rat)*(((q.den:Nat):Int):Rat):=by rw[Int.natCast_mul];simp
  have e4:((p.num*q.num:Int):Rat)=((p.num:Int):Rat)*((q.num:Int):Rat):=Ss;rw[e3,e4,<-O,<-V];grind
 rw[nO];exact mU I.1 hq.1
def zT(q:Rat):((q.den:Nat):Int).natAbs=q.den:=nS _
def qJp p q w{B C}(K:Sm B p)(hq:Sm C q)(h:B*C<=4500000000000000000):
 aG 222 #[enc p,enc q] w (enc (p+q)):=by
 have M:=xF K.1 (show(q.den:Int).natAbs<=C by rw[zT];exact hq.2) h;have O:=xF (b:=p.den) (C:=B) hq.1 (by rw[zT];exact K.2) (by rw[Nat.mul_comm];exact h);have V:=xF (a:=p.den) (b:=q.den) (by rw[zT];exact K.2) (by rw[zT];exact hq.2) h;have I:(p.den:Int)*(q.den:Int)≠0:=mX (O1 p.den_nz) (O1 q.den_nz);rw[<-jH (p.num*q.den+q.num*p.den) (p.den*q.den) I (p+q) (by
  rw[<-rM _ _ (O1 p.den_nz) (O1 q.den_nz),aH,aH])]
 exact VR _ _ _ _ w M.1 M.2 O.1 O.2 V.1 V.2 I
def qIn p q w{B C}(K:Sm B p)(hq:Sm C q)(h:B*C<=4500000000000000000):
 aG 182 #[enc p,enc q] w (enc (p-q)):=by
 have M:=xF K.1 (show(q.den:Int).natAbs<=C by rw[zT];exact hq.2) h;have O:=xF (b:=p.den) (C:=B) hq.1 (by rw[zT];exact K.2) (by rw[Nat.mul_comm];exact h);have V:=xF (a:=p.den) (b:=q.den) (by rw[zT];exact K.2) (by rw[zT];exact hq.2) h;have I:(p.den:Int)*(q.den:Int)≠0:=mX (O1 p.den_nz) (O1 q.den_nz);rw[<-jH (p.num*q.den-q.num*p.den) (p.den*q.den) I (p-q) (by
  rw[<-Rat.divInt_sub_divInt _ _ (O1 p.den_nz) (O1 q.den_nz),aH,aH])]
 exact Xw _ _ _ _ w M.1 M.2 O.1 O.2 V.1 V.2 I
def qIo p q w{B C}(K:Sm B p)(hq:Sm C q)(h:B*C<=4500000000000000000):
 aG 283 #[enc p,enc q] w (enc (p*q)):=by
 have M:=xF K.1 hq.1 h;have O:=xF (a:=p.den) (b:=q.den) (by rw[zT];exact K.2) (by rw[zT];exact hq.2) h;have I:(p.den:Int)*(q.den:Int)≠0:=mX (O1 p.den_nz) (O1 q.den_nz);rw[<-jH (p.num*q.num) (p.den*q.den) I (p*q) (by
  rw[<-pC,aH,aH])]
 exact qCJ _ _ _ _ w M.1 M.2 O.1 O.2 I
def Za{q:Rat}(h:q≠0):q.num≠0:=by
 intro e;exact h (Rat.num_eq_zero.1 e)
def qJd p q w{B C}(M:Sm B p)(hq:Sm C q)(h:B*C<=4500000000000000000)(K:q≠0):
 aG 282 #[enc p,enc q] w (enc (p / q)):=by
 have O:=xF M.1 (show(q.den:Int).natAbs<=C by rw[zT];exact hq.2) h;have V:=xF (a:=p.den) (by rw[zT];exact M.2) hq.1 h;have I:(p.den:Int)*q.num≠0:=mX (O1 p.den_nz) (Za K);rw[<-jH (p.num*q.den) (p.den*q.num) I (p / q) (by
  rw[<-pC,aH,<-Rat.inv_divInt,aH,pG])]
 exact qDv w O.1 O.2 V.1 V.2 I
def sgR(q:Rat):Int:=if q<0 then -1 else if 0<q then 1 else 0
def qHE q:RatM.sgn q.num=sgR q:=by
 have M:q<0↔q.num<0:=by
  have:=Rat.num_nonneg (q:=q);constructor
  .intro h;by_cases e:q.num<0;exact e;have:=this.1 Oo;grind
  intro h;by_cases e:q<0;exact e;have:=this.2 Rr;omega
 have O:0<q↔0<q.num:=by
  have:=Rat.num_nonneg (q:=q);constructor
  .intro h;have a:=this.2 Rr;by_cases e:q.num=0;rw[Rat.num_eq_zero.1 e]at h;grind;omega
  intro h;have a:=this.1 Oo;by_cases e:q=0;rw[e]at h;simp at h;grind
 unfold RatM.sgn sgR;by_cases I:q<0;rw[fE I,fE (M.1 I)];rw[fF I,fF (λh=>I (M.2 h))];by_cases K:0<q;rw[fE K,fE (O.1 K)];rw[fF K,fF (λh=>K (O.2 h))]
def Yr q w:
 aG 183 #[enc q] w (ai (sgR q)):=by
 rw[<-qHE];exact VS _ _ w
def uX{q}(h:q<0):sgR q=-1:=fE h
def uY{q}(h:0<q):sgR q=1:=by unfold sgR;rw[fF Rr,fE h]
def uZ{q}(h:q=0):sgR q=0:=by unfold sgR;rw[fF Rr,fF Rr]
def qHF(n:Int):enc (n:Rat)=aQ #[ai n,ai 1]:=by
 unfold enc;simp
def qIp{f}a b n(I:f=aQ #[ai a,ai b])w:
 aG 284 #[f,ai n] w (enc (n:Rat)):=by
 subst I;rw[qHF];go_enter func284,ntmps284;go_wp2;refine aU (by simp[results,results284,go_sem]) rfl ⟨rfl,?_⟩;go_grown
def Ys p q{w B C}(I:Sm B p)(hq:Sm C q)(h:B*C<=4500000000000000000):
 aG 182 #[aQ #[ai (p).num,ai (p).den],aQ #[ai (q).num,ai (q).den]] w (aQ #[ai (p-q).num,ai (p-q).den]):=qIn p q w I hq h
def qEP p q w{B C}(I:Sm B p)(hq:Sm C q)(h:B*C<=4500000000000000000):
 aG 283 #[aQ #[ai (p).num,ai (p).den],aQ #[ai (q).num,ai (q).den]] w (aQ #[ai (p*q).num,ai (p*q).den]):=qIo p q w I hq h
def qDR p q{w B C}(K:Sm B p)(hq:Sm C q)(h:B*C<=4500000000000000000)(I:q≠0):
 aG 282 #[aQ #[ai (p).num,ai (p).den],aQ #[ai (q).num,ai (q).den]] w (aQ #[ai (p / q).num,ai (p / q).den]):=qJd p q w K hq h I
def jB q{w}:
 aG 183 #[aQ #[ai (q).num,ai (q).den]] w (ai (sgR q)):=Yr q w
def qIq a b n{w}:
 aG 284 #[aQ #[ai a,ai b],ai n] w (aQ #[ai (n:Rat).num,ai (n:Rat).den]):=qIp a b n rfl w
end Go.Proofs.YtfpjpngjikdaoaaGreat
namespace Go.Proofs.YtfpjpngjikdaoaaGreat.Cov
def Ks{v u x y}(h:Lex (key v u x) (key v u y)):v*sm u x<=v*sm u y:=by
 rcases h with h|⟨h,-⟩;grind;grind
def Xk{m n A}:∀(l:List (NR)) {bar:NB} {s:Sx},Good m n A bar s->(∀c∈l,∃L,∀x,F m n A bar x->L<=dot n c x)->∃I V,Aims m n l bar s I V
 |[],bar,s,_,_=>⟨bar,s,⟨rfl,rfl⟩⟩
 |c::l,bar,s,h,hb=>by
  have⟨b1,s1,O⟩:=qDO c h;have⟨L,hL⟩:=hb c (cY ..);have⟨g1,g2,g3⟩:=Good.aim h O L hL;have⟨b2,s2,h2⟩:=Xk l g1 (λc' K=>by
   have⟨L',M⟩:=hb _ (mC _ K);exact⟨L',λx hx=>M x (g2 x hx).1⟩)
  exact⟨b2,s2,b1,s1,O,h2⟩
def qDS{n c x}(K:∀j,j<n->0<=c j)(M:∀j,j<n->0<=x j):0<=dot n c x:=
 zx (λj I=>iG (K j I) (M j I))
def Zb{a b j}:0<=cf a b 1 j:=by
 unfold cf;split;decide;exact pX
def least_cover{m u M}(O:∀r,r<m->∀e,e<u->0<=M r e)(K:∀r,r<m->∃e,e<u/\M r e=1):
 ∃bar s,Good m (u+m+m) (coverA m u M) bar s/\Cover m u M (xb m (u+m+m) s)/\∀y,Cover m u M y->Lex (key 1 u (xb m (u+m+m) s)) (key 1 u y):=by
 have⟨bar,s,h⟩:=Xk (A:=coverA m u M) (cf (u+m) (u+m+m) 1::cf 0 u 1::units u) cover_good (λc I=>by
  refine⟨0,λx V=>qDS (λj _=>?_) (λj hj=>V.2.1 j hj)⟩;rcases cH.1 I with rfl|I;exact Zb;rcases cH.1 I with rfl|I;exact Zb;obtain⟨k,-,rfl⟩:=cC.1 I;exact Zb)
 exact⟨bar,s,cover_least O K h⟩
def kept_sum{m u n M K}{rep up:NN}{nz:NB}
 (hK:∀r,r<m->∀p,p<n->K r p=M r (rep p)) (a3:∀p,p<n->rep p<u)
 (hz:∀e,e<u->nz e=nF->∀r,r<m->M r e=0)
 (a4:∀e,e<u->nz e->up e<n/\∀r,r<m->M r e<=M r (rep (up e)))
 {x y} (hx:Cover m u M x) (a5:∀z,Cover m u M z->Lex (key 1 u x) (key 1 u z))
 (hy:Cover m n K y) (a6:∀z,Cover m n K z->Lex (key 1 n y) (key 1 n z)):sm u x=sm n y:=by
 have one:∀p,p<n->∀f:NR,sm u (λe=>f e*(if rep p=e then y p else 0))=f (rep p)*y p:=by
  intro p O f;rw[sm_single (k:=rep p) (a3 p O)];simp;intro i _ hi;have:rep p≠i:=λh=>hi h.symm;simp[this]
 have two:∀f:NR,sm u (λe=>f e*sm n (λp=>if rep p=e then y p else 0))=sm n (λp=>f (rep p)*y p):=by
  intro f;have e1:sm u (λe=>f e*sm n (λp=>if rep p=e then y p else 0))=sm u (λe=>sm n (λp=>f e*(if rep p=e then y p else 0))):=
   sm_congr (λe _=>(sm_mul n).symm)
  rw[e1,jw];exact sm_congr (λp O=>one p O f)
 have c1:Cover m u M (λe=>sm n (λp=>if rep p=e then y p else 0)):=by
  refine⟨λe _=>zx (λp O=>?_),λr hr=>?_⟩
  .split;exact hy.1 p O;exact pX
  show 1<=sm u (λe=>M r e*sm n (λp=>if rep p=e then y p else 0));rw[two (M r)];have:=hy.2 r hr;rw[sm_congr (λp O=>by rw[hK r hr p O])]at this;exact this
 have s1:sm u (λe=>sm n (λp=>if rep p=e then y p else 0))=sm n y:=by
  have:=two (λ_=>1);rwa[sm_congr (g:=λe=>sm n (λp=>if rep p=e then y p else 0)) (λe _=>Rr),sm_congr (n:=n) (g:=y) (λe _=>Rr)]at this
 have l1:sm u x<=sm n y:=by
  have:=Ks (a5 _ c1);rw[s1]at this;grind
 have three:∀f:NR,sm n (λp=>f p*sm u (λe=>if nz e/\up e=p then x e else 0))=sm u (λe=>if nz e=true then f (up e)*x e else 0):=by
  intro f;have e1:sm n (λp=>f p*sm u (λe=>if nz e/\up e=p then x e else 0))=sm n (λp=>sm u (λe=>f p*(if nz e/\up e=p then x e else 0))):=
   sm_congr (λp _=>(sm_mul u).symm)
  rw[e1,jw];refine sm_congr (λe V=>?_);by_cases I:nz e
  .rw[fE I,sm_single (k:=up e) (a4 e V I).1];simp[I];intro p _ O;have:¬(nz e/\up e=p):=λh=>O h.2.symm;rw[fF this];grind
  rw[fF I];refine sm_zero (λp _=>?_);rw[fF (λh=>I h.1)];grind
 have c2:Cover m n K (λp=>sm u (λe=>if nz e/\up e=p then x e else 0)):=by
  refine⟨λp _=>zx (λe V=>?_),λr hr=>?_⟩
  .split;exact hx.1 e V;exact pX
  show 1<=sm n (λp=>K r p*sm u (λe=>if nz e/\up e=p then x e else 0));rw[three (K r)];have h1:=hx.2 r hr;have h2:sm u (λe=>M r e*x e)<=sm u (λe=>if nz e=true then K r (up e)*x e else 0):=by
   refine qDN (λe V=>?_);by_cases I:nz e=true;rw[fE I];have⟨a7,a8⟩:=a4 e V I;rw[hK r hr _ a7];have h3:=a8 r hr;exact Rat.mul_le_mul_of_nonneg_right h3 (hx.1 e V);rw[fF I,hz e V (by simpa using I) r hr];grind
  grind
 have l2:sm n y<=sm u x:=by
  have:=Ks (a6 _ c2);have h2:=three (λ_=>1);have h3:sm u (λe=>if nz e=true then 1*x e else 0)<=sm u x:=by
   refine qDN (λe V=>?_);by_cases I:nz e=true;rw[fE I];grind;rw[fF I];exact hx.1 e V
  rw[sm_congr (n:=n) (g:=λp=>sm u (λe=>if nz e/\up e=p then x e else 0)) (λe _=>Rr)]at h2;grind
 grind
end Go.Proofs.YtfpjpngjikdaoaaGreat.Cov
