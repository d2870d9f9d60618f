import Derived.Test.YtjbpgdpciinlcaaGreatBg26
set_option maxHeartbeats 40000000
set_option maxRecDepth 1000000
namespace Go.Proofs.YtjbpgdpciinlcaaGreat
open Go.RowKit
variable {most:Bool}{l:List Nat}{B C i j k n p:Nat}{s:Nat->Nat}{R T:Nat->Nat->Rat}{b piv x y:Nat->Rat}
theorem QC{p q:Rat}(hp:Sm B p)(hq:Sm C q)(h:B*C<=4500000000000000000):
 (-4500000000000000000<=p.num*(q.den:Int)/\p.num*(q.den:Int)<=4500000000000000000)/\(-4500000000000000000<=q.num*(p.den:Int)/\q.num*(p.den:Int)<=4500000000000000000)/\(-4500000000000000000<=(p.den:Int)*(q.den:Int)/\(p.den:Int)*(q.den:Int)<=4500000000000000000):=by
 have h1:=zg hp.1 (show((q.den:Nat):Int).natAbs<=C by rw[zA];exact hq.2) h;have h2:=zg (a:=q.num) (b:=(p.den:Int)) (B:=C) (C:=B) hq.1 (by rw[zA];exact hp.2) (by rw[Nat.mul_comm];exact h);have h3:=zg (a:=(p.den:Int)) (b:=(q.den:Int)) (B:=B) (C:=C) (by rw[zA];exact hp.2) (by rw[zA];exact hq.2) h;exact⟨h1,h2,h3⟩
theorem qBa(p q:Rat)(w:World)(hp:Sm B p)(hq:Sm C q)(h:B*C<=4500000000000000000):
 Cl 135 #[.agg #[.int .i64 (p).num,.int .i64 (p).den],.agg #[.int .i64 (q).num,.int .i64 (q).den]] w fun e w'=>e=.returned (.agg #[.int .i64 (p+q).num,.int .i64 (p+q).den])/\Bl w w':=by
 obtain⟨h1,h2,h3⟩:=QC hp hq h;have hne:(p.den:Int)*(q.den:Int)≠0:=Int.mul_ne_zero (by have:=p.den_nz;omega) (by have:=q.den_nz;omega);have:=JO p.num p.den q.num q.den w h1.1 h1.2 h2.1 h2.2 h3.1 h3.2 hne
 rw[vK (p.num*q.den+q.num*p.den) (p.den*q.den) hne (p+q) (by
  rw[<-Rat.divInt_add_divInt _ _ (by have:=p.den_nz;omega) (by have:=q.den_nz;omega),Rat.num_divInt_den,Rat.num_divInt_den])]at this
 exact this
theorem qDh(p q:Rat)(w:World)(hp:Sm B p)(hq:Sm C q)(h:B*C<=4500000000000000000):
 Cl 169 #[.agg #[.int .i64 (p).num,.int .i64 (p).den],.agg #[.int .i64 (q).num,.int .i64 (q).den]] w fun e w'=>e=.returned (.agg #[.int .i64 (p - q).num,.int .i64 (p - q).den])/\Bl w w':=by
 obtain⟨h1,h2,h3⟩:=QC hp hq h;have hne:(p.den:Int)*(q.den:Int)≠0:=Int.mul_ne_zero (by have:=p.den_nz;omega) (by have:=q.den_nz;omega);have:=UX p.num p.den q.num q.den w h1.1 h1.2 h2.1 h2.2 h3.1 h3.2 hne
 rw[vK (p.num*q.den - q.num*p.den) (p.den*q.den) hne (p - q) (by
  rw[<-Rat.divInt_sub_divInt _ _ (by have:=p.den_nz;omega) (by have:=q.den_nz;omega),Rat.num_divInt_den,Rat.num_divInt_den])]at this
 exact this
theorem qDi(p q:Rat)(w:World)(hp:Sm B p)(hq:Sm C q)(h:B*C<=4500000000000000000):
 Cl 170 #[.agg #[.int .i64 (p).num,.int .i64 (p).den],.agg #[.int .i64 (q).num,.int .i64 (q).den]] w fun e w'=>e=.returned (.agg #[.int .i64 (p*q).num,.int .i64 (p*q).den])/\Bl w w':=by
 obtain⟨h1,h2,h3⟩:=QC hp hq h;have hne:(p.den:Int)*(q.den:Int)≠0:=Int.mul_ne_zero (by have:=p.den_nz;omega) (by have:=q.den_nz;omega);have h4:=zg hp.1 hq.1 h;have:=UY p.num p.den q.num q.den w h4.1 h4.2 h3.1 h3.2 hne
 rw[vK (p.num*q.num) (p.den*q.den) hne (p*q) (by
  rw[<-Rat.divInt_mul_divInt,Rat.num_divInt_den,Rat.num_divInt_den])]at this
 exact this
theorem qBb(p q:Rat)(w:World)(hp:Sm B p)(hq:Sm C q)(h:B*C<=4500000000000000000)(hq0:q≠0):
 Cl 168 #[.agg #[.int .i64 (p).num,.int .i64 (p).den],.agg #[.int .i64 (q).num,.int .i64 (q).den]] w fun e w'=>e=.returned (.agg #[.int .i64 (p / q).num,.int .i64 (p / q).den])/\Bl w w':=by
 obtain⟨h1,h2,h3⟩:=QC hp hq h;have hn:=kQ hq0;have hne:(p.den:Int)*q.num≠0:=Int.mul_ne_zero (by have:=p.den_nz;omega) hn;have h5:-4500000000000000000<=(p.den:Int)*q.num/\(p.den:Int)*q.num<=4500000000000000000:=by rw[Int.mul_comm];exact h2
 have:=JQ p.num p.den q.num q.den w h1.1 h1.2 h5.1 h5.2 hne
 rw[vK (p.num*q.den) (p.den*q.num) hne (p / q) (by
  rw[<-Rat.divInt_mul_divInt,Rat.num_divInt_den,<-Rat.inv_divInt,Rat.num_divInt_den,Rat.div_def])]at this
 exact this
theorem uR(p q:Rat)(w:World)(hp:Sm B p)(hq:Sm C q)(h:B*C<=4500000000000000000):
 Cl 91 #[.agg #[.int .i64 (p).num,.int .i64 (p).den],.agg #[.int .i64 (q).num,.int .i64 (q).den]] w fun e w'=>e=.returned (.bool (decide (p < q)))/\Bl w w':=by
 obtain⟨h1,h2,h3⟩:=QC hp hq h;have:=JR p.num p.den q.num q.den w h1.1 h1.2 h2.1 h2.2
 rw[show decide (p.num*(q.den:Int) < q.num*(p.den:Int))=decide (p < q) from by
  rw[decide_eq_decide];exact Rat.lt_iff p q|>.symm]at this
 exact this
structure Dem where
 pl:List Nat
 up:Bool
 bd:Int
def yN:Dem:=⟨[],false,0⟩
def Dem.dm(d:Dem):Cov.Dm:=⟨fun i=>if i∈d.pl then 1 else 0,d.up,((d.bd:Int):Rat)⟩
structure zT(n:Nat)(d:Dem):Prop where
 nd:d.pl.Nodup
 lt:∀i∈d.pl,i < n
 len:d.pl.length<=7
 bd:d.bd=0∨d.bd=1
def lsum(l:List Nat)(x:Nat->Rat):Nat->Rat
 |0=>0
 |k+1=>lsum l x k+x (l.getD k 0)
theorem yw(l:List Nat)(k:Nat)(h:k < l.length)(i:Nat):i∈l.take (k+1)↔i∈l.take k∨i=l.getD k 0:=by
 rw[tA,gE h,gD,gE h,List.mem_append];simp only[Option.toList_some,List.mem_singleton,Option.getD_some]
theorem Jq{l:List Nat}{n:Nat}(x:Nat->Rat)(hn:l.Nodup)(hl:∀i∈l,i < n):∀k,k<=l.length->lsum l x k=Cov.sm n (fun i=>(if i∈l.take k then 1 else 0)*x i)
 |0,_=>by
  symm;exact Cov.sm_zero (fun i _=>by simp)
 |k+1,hk=>by
  have hkl:k < l.length:=by omega
  have hm:l.getD k 0∈l:=by
   rw[gD,gE hkl];exact gM _
  have hnot:l.getD k 0∉l.take k:=by
   intro h;obtain⟨j,hj,e⟩:=List.mem_iff_getElem.1 h;rw[bQ]at hj;rw[List.getElem_take,gD,gE hkl]at e;simp only[Option.getD_some]at e;exact(List.pairwise_iff_getElem.1 hn) j k (by omega) hkl (by omega) e
  show lsum l x k+x (l.getD k 0)=_;rw[Jq x hn hl k (by omega)]
  have e1:x (l.getD k 0)=Cov.sm n (fun i=>(if i=l.getD k 0 then 1 else 0)*x i):=by
   rw[Cov.sm_single (hl _ hm) (fun i _ hne=>by rw[if_neg hne];grind),if_pos rfl];grind
  rw[e1,<-Cov.sm_add];refine Cov.sm_congr (fun i _=>?_);by_cases h1:i∈l.take k
  ·have h2:i≠l.getD k 0:=fun e=>hnot (e ▸ h1);rw[if_pos h1,if_neg h2,if_pos ((yw l k hkl i).2 (Or.inl h1))];grind
  ·by_cases h2:i=l.getD k 0
   ·rw[if_neg h1,if_pos h2,if_pos ((yw l k hkl i).2 (Or.inr h2))];grind
   ·rw[if_neg h1,if_neg h2,if_neg (fun h=>by rcases (yw l k hkl i).1 h with h3|h3;exact h1 h3;exact h2 h3)];grind
theorem qC4{d:Dem}(x:Nat->Rat)(h:zT n d):lsum d.pl x d.pl.length=d.dm.at n x:=by
 rw[Jq x h.nd h.lt _ (nR _),tL];rfl
theorem Zf{n:Nat}{x:Nat->Rat}{l:List Nat}{D:Int}(hl:∀i∈l,i < n)(hw:∀j,j < n->Cov.Whole 5040 (x j*((D:Int):Rat))):∀k,k<=l.length->Cov.Whole (k*5040) (lsum l x k*((D:Int):Rat))
 |0,_=>⟨0,by show(0:Rat)*_=_;grind,by simp⟩
 |k+1,hk=>by
  have hm:l.getD k 0∈l:=by
   rw[gD,gE (by omega)];exact gM _
  have:=(Zf hl hw k (by omega)).add (hw _ (hl _ hm));show Cov.Whole ((k+1)*5040) ((lsum l x k+x (l.getD k 0))*_);rw[show(lsum l x k+x (l.getD k 0))*((D:Int):Rat)=lsum l x k*((D:Int):Rat)+x (l.getD k 0)*((D:Int):Rat)by grind,show(k+1)*5040=k*5040+5040 by omega];exact this
theorem Parts.lsum(h:Parts n x){d:Dem}(hd:zT n d)(hk:k<=d.pl.length):Sm 36000 (lsum d.pl x k):=by
 obtain⟨D,h0,hD,hw⟩:=h;have hl:=hd.len;refine zJ h0 (by omega) (Zf hd.lt hw k hk) ?_;have:k*5040<=7*5040:=Nat.mul_le_mul (by omega) (nR _);omega
def jY(n:Nat)(d:Dem)(x:Nat->Rat):Bool:=if d.up then !decide (d.dm.b < d.dm.at n x) else !decide (d.dm.at n x < d.dm.b)
theorem VZ{d:Dem}:jY n d x=true↔d.dm.meets n x:=by
 unfold jY Cov.Dm.meets;cases h:d.up
 ·rw[show d.dm.up=false from h];simp only[Bool.false_eq_true,if_false,Bool.not_eq_true',decide_eq_false_iff_not];exact Rat.not_lt
 ·rw[show d.dm.up=true from h];simp only[if_true,Bool.not_eq_true',decide_eq_false_iff_not];exact Rat.not_lt
theorem vN(w:World)(x y:Int)(t:TypeId):Two (w.alloc (.cells #[.int .i64 x,.int .i64 y] t)) w.heap.size x y:=
 ⟨by rw[cA _ _ _ _ rfl];rfl,by rw[cA _ _ _ _ rfl];rfl,World.frozen?_alloc_at _ _ _ _ rfl,World.frozen?_alloc_at _ _ _ _ rfl⟩
theorem Yg(w:World)(vx u:Value)(n:Nat)(d:Dem)(x:Nat->Rat)(hx:IR w vx (prs n x))(hu:IntsAt w u d.pl)(hd:zT n d)(hp:Parts n x):
 Cl 137 #[vx,.agg #[u,.bool d.up,.int .i64 d.bd]] w fun e w'=>e=.returned (.bool (jY n d x))/\Bl w w':=by
 obtain⟨a,cap,rfl,hcx⟩:=hx;obtain⟨a2,cap2,rfl,hcu⟩:=hu;rw[qU]at hcx ⊢;obtain⟨m,hm⟩:∃m,m=d.pl.length:=⟨_,rfl⟩;have hm7:m<=7:=by rw[hm];exact hd.len
 rw[<-hm]at hcu ⊢;have HCX:=hid hcx;have HCU:=hid hcu;have HD:=hid hd;have HP:=hid hp;have HM:=hid hm;have hbd:-1<=d.bd/\d.bd<=1:=by rcases hd.bd with h|h <;> omega
 have HL:Hid (lsum d.pl x m=d.dm.at n x):=hid (by rw[hm];exact qC4 x hd);clear hcx hcu hd hp hm;have hA0:ArrAt (w.alloc (.cells #[.slice a2 m cap2,.bool d.up,.int .i64 d.bd] 145)) w.heap.size 3 (f3 (.slice a2 m cap2) (.bool d.up) (.int .i64 d.bd)):=qt w 3 (f3 (.slice a2 m cap2) (.bool d.up) (.int .i64 d.bd)) 145;have hb0:Bl w (w.alloc (.cells #[.slice a2 m cap2,.bool d.up,.int .i64 d.bd] 145)):=(bI _ _).alloc (nR _) _;have hz0:(w.alloc (.cells #[.slice a2 m cap2,.bool d.up,.int .i64 d.bd] 145)).heap.size=w.heap.size+1:=by simp
 go_enter Tryz.func137,Tryz.ntmps137
 go_upto_region 2 with fail
 have hA1:=hA0.alloc (by omega) (.cells #[.int .i64 0,.int .i64 1] 37);have hb1:=hb0.alloc hb0.size (.cells #[.int .i64 0,.int .i64 1] 37);have ht1:=vN (w.alloc (.cells #[.slice a2 m cap2,.bool d.up,.int .i64 d.bd] 145)) 0 1 37;rw[hz0]at ht1;generalize (w.alloc (.cells #[.slice a2 m cap2,.bool d.up,.int .i64 d.bd] 145)).alloc (.cells #[.int .i64 0,.int .i64 1] 37)=W at *;obtain⟨p0,p1,p2⟩:=hA1.three;have HX:=hid (And.intro hA1 (And.intro hb1 ht1));clear hA0 hb0 hz0 hA1 hb1 ht1;go_wp2;go_loopw [13] (fun t wr=>∃k:Nat,k<=m/\t=.int .i64 k/\Hid (ArrAt wr w.heap.size 3 (f3 (.slice a2 m cap2) (.bool d.up) (.int .i64 d.bd))/\Bl w wr/\Two wr (w.heap.size+1) (lsum d.pl x k).num (lsum d.pl x k).den)) (fun t _=>m - (intOf t).toNat)
 case atStart=>exact⟨0,nZ _,rfl,HX⟩
 case round=>
  clear HX p0 p1 p2;obtain⟨k,hk,rfl,hH⟩:=hrel;by_cases hkm:k < m
  ·have i1:(k:Int) < (m:Int):=by omega
   obtain⟨b,o,rfl,hy⟩:=HCU.out k hkm;have hkl:k < d.pl.length:=by rw[<-HM.out];exact hkm
   have hmem:d.pl.getD k 0∈d.pl:=by
    rw[gD,gE hkl];exact gM _
   have hjn:=HD.out.lt _ hmem;have HS1:Hid (Sm 36000 (lsum d.pl x k)):=hid (HP.out.lsum HD.out (by omega));have HSN:Hid (lsum d.pl x (k+1)=lsum d.pl x k+x (d.pl.getD k 0)):=hid rfl;obtain⟨j,hj⟩:∃j,j=d.pl.getD k 0:=⟨_,rfl⟩;rw[<-hj]at hy hjn HSN;have HS2:Hid (Sm 5040 (x j)):=hid (HP.out.sm hjn);have cy:wr.cell? ⟨b,o+k,none⟩=some (.int .i64 (j:Nat)):=(hH.out.2.1.cell (p:=⟨b,o+k,none⟩) (bL w _ hy)).trans hy;rcases HCX.out with h0|⟨b2,o2,rfl,hcell⟩
   ·omega
   ·obtain⟨e1,e2⟩:=hcell j hjn;rw[x9 hjn]at e1 e2;have x1:wr.cell? ⟨b2,o2+j*2,none⟩=some (.int .i64 (x j).num):=(hH.out.2.1.cell (p:=⟨b2,o2+j*2,none⟩) (bL w _ e1)).trans e1;have x2:wr.cell? ⟨b2,o2+j*2+1,none⟩=some (.int .i64 (x j).den):=(hH.out.2.1.cell (p:=⟨b2,o2+j*2+1,none⟩) (bL w _ e2)).trans e2;obtain⟨t1,t2,t3,t4⟩:=hH.out.2.2;have HX:=hH;have j1:(j:Int) < (n:Int):=by omega
    clear hH hy e1 e2 hcell hj;generalize hq:lsum d.pl x k=q at *;have hgl:w.heap.size+1 < wr.heap.size:=bL wr _ t1;go_wp2_with fail
    go_region_law (first|(go_simp;go_at_call 135;refine(qBa q (x j) _ HS1.out HS2.out (by decide)).mono ?_;rintro e w2 ⟨rfl,hb'⟩;have hb:=qS hb';have hT:=HX.out.2.2.below hgl hb;obtain⟨s1,s2,s3,s4⟩:=hT))
    all_goals
     have HF:Hid (ArrAt ((w2.setCell ⟨w.heap.size+1,0,none⟩ (.int .i64 (q+x j).num)).setCell ⟨w.heap.size+1,1,none⟩ (.int .i64 (q+x j).den)) w.heap.size 3 (f3 (.slice (some ⟨b,o,none⟩) m cap2) (.bool d.up) (.int .i64 d.bd))/\Bl w ((w2.setCell ⟨w.heap.size+1,0,none⟩ (.int .i64 (q+x j).num)).setCell ⟨w.heap.size+1,1,none⟩ (.int .i64 (q+x j).den))/\Two ((w2.setCell ⟨w.heap.size+1,0,none⟩ (.int .i64 (q+x j).num)).setCell ⟨w.heap.size+1,1,none⟩ (.int .i64 (q+x j).den)) (w.heap.size+1) (lsum d.pl x (k+1)).num (lsum d.pl x (k+1)).den):=hid ⟨((HX.out.1.below (by omega) hb).move (bD _ _ _ _ (by show w.heap.size≠w.heap.size+1;omega))).move (bD _ _ _ _ (by show w.heap.size≠w.heap.size+1;omega)),((bt HX.out.2.1 hb).setCell (by show w.heap.size<=w.heap.size+1;omega) _).setCell (by show w.heap.size<=w.heap.size+1;omega) _,by rw[HSN.out];exact(HX.out.2.2.below hgl hb).set _ _⟩
     clear hb hb' s1 s2 s3 s4
     go_wp2
     go_roundw
     case rel=>exact⟨k+1,by omega,by go_num,HF⟩
     case measure=>simp[intOf];omega
  ·obtain rfl:k=m:=by omega
   have i1:¬((k:Int) < (k:Int)):=by omega
   obtain⟨p0,p1,p2⟩:=hH.out.1.three;obtain⟨t1,t2,-,-⟩:=hH.out.2.2;rw[HL.out]at t1 t2;have hS:Sm 36000 (d.dm.at n x):=by rw[<-HL.out];exact HP.out.lsum HD.out (by rw[<-HM.out];exact nR _)
   have HB:=hid hH.out.2.1;have hgl:w.heap.size+1 < wr.heap.size:=bL wr _ t1;have hSb:Sm 36000 (((d.bd:Int):Rat)):=⟨by show d.bd.natAbs<=36000;omega,by show 1<=36000;omega⟩;have hg0:w.heap.size < wr.heap.size:=by omega
   clear hH;cases hup:d.up
   ·rw[hup]at p1;have HR:Hid (jY n d x=!decide (d.dm.at n x < ((d.bd:Int):Rat))):=hid (by unfold jY;rw[hup];rfl);have KL:Hid (∀W,Cl 91 #[.agg #[.int .i64 (d.dm.at n x).num,.int .i64 (d.dm.at n x).den],.agg #[.int .i64 d.bd,.int .i64 1]] W fun e w'=>e=.returned (.bool (decide (d.dm.at n x < ((d.bd:Int):Rat))))/\Bl W w'):=hid (fun W=>uR _ _ W hS hSb (by decide));generalize (d.dm.at n x).num=nu at *;generalize (d.dm.at n x).den=de at *;go_wp2_with (first|(go_at_call 91;refine(KL.out _).mono ?_;rintro e w2 ⟨rfl,hb'⟩))
    go_ret;exact⟨qG HR.out.symm,bt (HB.out.alloc HB.out.size _) hb'⟩
   ·rw[hup]at p1;have HR:Hid (jY n d x=!decide (((d.bd:Int):Rat) < d.dm.at n x)):=hid (by unfold jY;rw[hup];rfl);have KL:Hid (∀W,Cl 91 #[.agg #[.int .i64 d.bd,.int .i64 1],.agg #[.int .i64 (d.dm.at n x).num,.int .i64 (d.dm.at n x).den]] W fun e w'=>e=.returned (.bool (decide (((d.bd:Int):Rat) < d.dm.at n x)))/\Bl W w'):=hid (fun W=>uR _ _ W hSb hS (by decide));generalize (d.dm.at n x).num=nu at *;generalize (d.dm.at n x).den=de at *;go_wp2_with (first|(go_at_call 91;refine(KL.out _).mono ?_;rintro e w2 ⟨rfl,hb'⟩))
    go_ret;exact⟨qG HR.out.symm,bt (HB.out.alloc HB.out.size _) hb'⟩
def uB(x y:Nat->Rat):Nat->Nat->Bool
 |0,_=>false
 |f+1,k=>if x k < y k then true else if y k < x k then false else uB x y f (k+1)
def uC(n:Nat)(most:Bool)(x y:Nat->Rat):Bool:=if Cov.sm n x < Cov.sm n y then !most else if Cov.sm n y < Cov.sm n x then most else uB x y n 0
theorem Y6{x y:Nat->Rat}:∀(f k:Nat),uB x y f k=true↔Cov.Lex ((List.range' k f).map x) ((List.range' k f).map y)/\¬Cov.Lex ((List.range' k f).map y) ((List.range' k f).map x)
 |0,k=>by
  constructor
  ·intro h;cases h
  ·rintro⟨_,h⟩;exact absurd trivial h
 |f+1,k=>by
  have ih:=Y6 (x:=x) (y:=y) f (k+1);rw[List.range'_succ,List.map_cons,List.map_cons];show(if x k < y k then true else if y k < x k then false else uB x y f (k+1))=true↔(x k < y k∨(x k=y k/\Cov.Lex _ _))/\¬(y k < x k∨(y k=x k/\Cov.Lex _ _));by_cases h1:x k < y k
  ·rw[if_pos h1];refine⟨fun _=>⟨Or.inl h1,?_⟩,fun _=>rfl⟩;rintro (h|⟨h,_⟩) <;> grind
  ·rw[if_neg h1];by_cases h2:y k < x k
   ·rw[if_pos h2];refine⟨(fun h=>by cases h),?_⟩;rintro⟨h|⟨h,_⟩,_⟩ <;> grind
   ·rw[if_neg h2,ih];have e:x k=y k:=by grind
    constructor
    ·rintro⟨h3,h4⟩;refine⟨Or.inr ⟨e,h3⟩,?_⟩;rintro (h|⟨_,h⟩)
     ·exact h2 h
     ·exact h4 h
    ·rintro⟨h3,h4⟩;refine⟨?_,fun h=>h4 (Or.inr ⟨e.symm,h⟩)⟩;rcases h3 with h|⟨_,h⟩
     ·exact absurd h h1
     ·exact h
def qu(most:Bool):Rat:=if most then -1 else 1
theorem Y7:uC n most x y=true↔Cov.Lex (Cov.key (qu most) n x) (Cov.key (qu most) n y)/\¬Cov.Lex (Cov.key (qu most) n y) (Cov.key (qu most) n x):=by
 unfold Cov.key;have hn:=Y6 (x:=x) (y:=y) n 0;rw[<-List.range_eq_range']at hn;show uC n most x y=true↔(qu most*Cov.sm n x < qu most*Cov.sm n y∨(qu most*Cov.sm n x=qu most*Cov.sm n y/\Cov.Lex _ _))/\¬(qu most*Cov.sm n y < qu most*Cov.sm n x∨(qu most*Cov.sm n y=qu most*Cov.sm n x/\Cov.Lex _ _));unfold uC;by_cases h1:Cov.sm n x < Cov.sm n y
 ·rw[if_pos h1];cases most
  ·have:qu false=1:=rfl;rw[this];refine⟨fun _=>⟨Or.inl (by grind),?_⟩,fun _=>rfl⟩;rintro (h|⟨h,_⟩) <;> grind
  ·have:qu true=-1:=rfl;rw[this];refine⟨(fun h=>by cases h),?_⟩;rintro⟨h|⟨h,_⟩,_⟩ <;> grind
 ·rw[if_neg h1];by_cases h2:Cov.sm n y < Cov.sm n x
  ·rw[if_pos h2];cases most
   ·have:qu false=1:=rfl;rw[this];refine⟨(fun h=>by cases h),?_⟩;rintro⟨h|⟨h,_⟩,_⟩ <;> grind
   ·have:qu true=-1:=rfl;rw[this];refine⟨fun _=>⟨Or.inl (by grind),?_⟩,fun _=>rfl⟩;rintro (h|⟨h,_⟩) <;> grind
  ·rw[if_neg h2,hn];have e:Cov.sm n x=Cov.sm n y:=by grind
   rw[e];constructor
   ·rintro⟨h3,h4⟩;refine⟨Or.inr ⟨rfl,h3⟩,?_⟩;rintro (h|⟨_,h⟩)
    ·grind
    ·exact h4 h
   ·rintro⟨h3,h4⟩;refine⟨?_,fun h=>h4 (Or.inr ⟨rfl,h⟩)⟩;rcases h3 with h|⟨_,h⟩
    ·grind
    ·exact h
theorem kJ(w:World)(v:Value)(u:Nat)(x:Nat->Rat)(hu:u<=7)(h:IR w v (prs u x))(hp:Parts u x):
 Cl 112 #[v] w fun e w'=>e=.returned (.agg #[.int .i64 (Cov.sm u x).num,.int .i64 (Cov.sm u x).den])/\Bl w w':=by
 have:=JZ w v (prs u x) h (by rw[qU];omega) (fun k=>((Cov.sm k x).num,((Cov.sm k x).den:Int))) rfl (fun k W hk=>by
  rw[qU]at hk;rw[x9 hk];exact qBa (Cov.sm k x) (x k) W (hp.sum (by omega) hu) (hp.sm hk) (by decide))
 rw[qU]at this;exact this
def zH(n:Nat)(L:List Dem):Nat->Nat->Rat:=fun i j=>if j=n then (((L.getD i yN).bd:Int):Rat) else if j∈(L.getD i yN).pl then 1 else 0
theorem xT{α:Type}{l:List α}{d:α}(h:i < l.length):l.getD i d∈l:=by
 rw[gD,gE h];exact gM _
theorem JV{L:List Dem}(h:∀D∈L,zT n D){r:Nat}(hr:r < L.length):Cov.Whole 1 (zH n L r j):=by
 unfold zH;split
 ·refine⟨_,rfl,?_⟩;rcases (h _ (xT (d:=yN) hr)).bd with e|e <;> rw[e] <;> decide
 ·split
  ·exact⟨1,rfl,by decide⟩
  ·exact⟨0,rfl,by decide⟩
theorem ZG{L:List Dem}(r:Nat)(x:Nat->Rat):Cov.sm n (fun j=>zH n L r j*x j)=(L.getD r yN).dm.at n x:=
 Cov.sm_congr (fun j hj=>by unfold zH;rw[if_neg (by omega)];rfl)
theorem qCc{L:List Dem}(r:Nat):zH n L r n=(L.getD r yN).dm.b:=if_pos rfl
section
variable {n c:Nat} {R0 R T:Nat->Nat->Rat} {B s:Nat->Nat} {piv:Nat->Rat}
theorem qCd(h:Cov.GJ n c R0 R T B s piv)(hw:∀j,j<=n->∀r,r < n->Cov.Whole 1 (R0 r j))(hn:n<=7):
 ∃D:Int,D≠0/\D.natAbs<=5040/\∀i,i < n->∀j,j<=n+n->Cov.Whole 5040 (T i j*D):=by
 obtain⟨D,h0,hD,hW⟩:=h.inv.small (fun j hj r hr=>by
  unfold Cov.solveA;split
  ·exact hw j (by omega) r hr
  ·split
   ·split
    ·exact⟨1,rfl,by decide⟩
    ·exact⟨0,rfl,by decide⟩
   ·exact hw n (nR _) r hr)
 have hf:=ZP hn;exact⟨D,h0,by omega,fun i hi j hj=>(hW i hi j hj).mono hf⟩
theorem qCm(h:j<=n):Cov.cl n j<=n+n:=by
 unfold Cov.cl;split <;> omega
theorem qET(h:Cov.GJ n c R0 R T B s piv)(hw:∀j,j<=n->∀r,r < n->Cov.Whole 1 (R0 r j))(hn:n<=7)(hi:i < n)(hj:j<=n+n):Sm 5040 (T i j):=by
 obtain⟨D,h0,hD,hW⟩:=qCd h hw hn;exact zJ h0 hD (hW i hi j hj) (nR _)
theorem qBV(h:Cov.GJ n c R0 R T B s piv)(hn:n<=7)(hi:i < c):Sm 5040 (piv i):=by
 obtain⟨D,h0,hD,hW⟩:=h.pivsm i hi;have hf:=ZP hn;exact zJ h0 (by omega) hW hf
theorem qBW(h:Cov.GJ n c R0 R T B s piv)(hw:∀j,j<=n->∀r,r < n->Cov.Whole 1 (R0 r j))(hn:n<=7)(hc:c<=p)(hp:p < n)(hj:j<=n):Sm 5040 (R p j):=by
 rw[h.rowt p hc hp j hj];exact qET h hw hn (h.lt p hp) (qCm hj)
theorem qBX(h:Cov.GJ n c R0 R T B s piv)(hw:∀j,j<=n->∀r,r < n->Cov.Whole 1 (R0 r j))(hn:n<=7)(hi:i < n)(hj:j<=n):Sm 25401600 (R i j):=by
 by_cases hic:i < c
 ·rw[h.rowd i hic j hj];exact((qBV h hn hic).mul (qET h hw hn (h.lt i hi) (qCm hj))).mono (by decide)
 ·exact(qBW h hw hn (by omega) hi hj).mono (by decide)
theorem qEd(h:Cov.GJ n c R0 R T B s piv)(hw:∀j,j<=n->∀r,r < n->Cov.Whole 1 (R0 r j))(hn:n<=7)(hcp:c<=p)(hp:p < n)(hne:R p c≠0)(hk:k < n):Sm 25401600 (R k c / R p c):=by
 obtain⟨D,h0,hD,hW⟩:=qCd h hw hn;have hcl:Cov.cl n c=c:=if_neg (by omega);have e1:R p c=T (s p) c:=by rw[h.rowt p hcp hp c (by omega),hcl]
 have hq:∀a,a < n->Sm 5040 (T a c / T (s p) c):=by
  intro a ha;obtain⟨z1,e2,b1⟩:=hW a ha c (by omega);obtain⟨z2,e3,b2⟩:=hW (s p) (h.lt p hp) c (by omega);have hT:T (s p) c≠0:=by rw[<-e1];exact hne
  have hD':((D:Int):Rat)≠0:=by
   intro e;exact h0 (by exact_mod_cast e)
  have hz:z2≠0:=by
   intro e;rw[e]at e3;have:T (s p) c*((D:Int):Rat)=0:=e3;rcases Rat.mul_eq_zero.1 this with e4|e4
   ·exact hT e4
   ·exact hD' e4
  refine zJ (D:=z2) hz b2 (Z:=5040) ⟨z1,?_,b1⟩ (nR _);rw[<-e2,<-e3];grind
 rw[e1];by_cases hkc:k < c
 ·rw[h.rowd k hkc c (by omega),hcl,show piv k*T (s k) c / T (s p) c=piv k*(T (s k) c / T (s p) c)by grind];exact((qBV h hn hkc).mul (hq _ (h.lt k hk))).mono (by decide)
 ·rw[h.rowt k (by omega) hk c (by omega),hcl];exact(hq _ (h.lt k hk)).mono (by decide)
theorem qCe(h:Cov.GJ n c R0 R T B s piv)(hw:∀j,j<=n->∀r,r < n->Cov.Whole 1 (R0 r j))(hn:n<=7):Parts n (fun i=>T (s i) (n+n)):=by
 obtain⟨D,h0,hD,hW⟩:=qCd h hw hn;exact⟨D,h0,hD,fun j hj=>hW _ (h.lt j hj) _ (nR _)⟩
end
def Xm(n:Nat)(L:List Dem)(x:Nat->Rat):Prop:=∀y,(∀D∈L,D.dm.at n y=D.dm.b)->∀i,i < n->y i=x i
theorem kz{α:Type}{L:List α}{D d:α}(h:D∈L):∃r,r < L.length/\L.getD r d=D:=by
 obtain⟨r,hr,e⟩:=List.mem_iff_getElem.1 h;exact⟨r,hr,by rw[gD,gE hr,<-e];rfl⟩
theorem qDb{L:List Dem}{B:Nat->Nat}(hL:L.length=n)(h:Cov.GJ n n (zH n L) R T B s piv):Xm n L (fun i=>T (s i) (n+n)):=by
 intro y hy i hi;refine(Cov.gj_end h).2 y (fun r hr=>?_) i hi;rw[ZG,qCc];exact hy _ (xT (by omega))
theorem qAT{c:Nat}{L:List Dem}{B:Nat->Nat}(hL:L.length=n)(h:Cov.GJ n c (zH n L) R T B s piv)(hc:c < n)(hz:∀p,c<=p->p < n->R p c=0):¬Cov.Kern n (L.map Dem.dm):=by
 intro hk;obtain⟨d,h1,h2⟩:=Cov.gj_stuck h hc hz
 have:=hk d (fun D hD=>by
  obtain⟨E,hE,rfl⟩:=List.mem_map.1 hD;obtain⟨r,hr,e⟩:=kz (d:=yN) hE;have:=h2 r (by omega);rw[ZG,e]at this;exact this) c hc
 rw[h1]at this;exact absurd this (by decide)
theorem qDc{L:List Dem}{B:Nat->Nat}(hL:L.length=n)(h:Cov.GJ n n (zH n L) R T B s piv):Cov.Kern n (L.map Dem.dm):=by
 intro d hd i hi
 have hdl:∀i,i < n->∀j,j < n->T (s i) j=if i=j then 1 else 0:=by
  intro i hi j hj;have:=h.inv.unit (s i) (h.lt i hi) (s j) (h.lt j hj);rw[h.done j hj]at this;rw[this];by_cases e:i=j
  ·rw[if_pos e,if_pos (by rw[e])]
  ·rw[if_neg e,if_neg (fun e2=>e (h.inj i hi j hj e2))]
 have hh:Cov.Hom n (n+n) (Cov.solveA n (zH n L)) (fun j=>if j < n then d j else 0):=by
  intro r hr;rw[Cov.sm_app]
  have e1:Cov.sm n (fun j=>(if j < n then d j else 0)*Cov.solveA n (zH n L) j r)=Cov.sm n (fun j=>zH n L r j*d j):=Cov.sm_congr (fun j hj=>by
   unfold Cov.solveA;rw[if_pos hj,if_pos hj];grind)
  have e2:Cov.sm n (fun i=>(if n+i < n then d (n+i) else 0)*Cov.solveA n (zH n L) (n+i) r)=0:=Cov.sm_zero (fun i _=>by rw[if_neg (by omega)];grind);rw[e1,e2,ZG,hd _ (List.mem_map.2 ⟨_,xT (by omega),rfl⟩)];grind
 have h1:=h.inv.hom_rows hh (s i) (h.lt i hi);rw[Cov.sm_app]at h1
 have e1:Cov.sm n (fun j=>T (s i) j*(if j < n then d j else 0))=d i:=by
  rw[Cov.sm_single (k:=i) hi]
  ·rw[hdl i hi i hi,if_pos rfl,if_pos hi];grind
  ·intro j hj hne;rw[hdl i hi j hj,if_neg (fun e=>hne e.symm)];grind
 have e2:Cov.sm n (fun k=>T (s i) (n+k)*(if n+k < n then d (n+k) else 0))=0:=Cov.sm_zero (fun k _=>by rw[if_neg (by omega)];grind);rw[e1,e2]at h1;grind
structure QA(n:Nat)(most:Bool)(all:List Dem)(x:Nat->Rat):Prop where
 meets:∀D∈all,D.dm.meets n x
 least:∀y,(∀D∈all,D.dm.meets n y)->Cov.Lex (Cov.key (qu most) n x) (Cov.key (qu most) n y)
def Compl(n:Nat)(all:List Dem)(x:Nat->Rat)(k:Nat)(ch:List Dem):Prop:=
 ∃S,S.Sublist (all.drop k)/\ch.length+S.length=n/\(∀D∈ch++S,D.dm.at n x=D.dm.b)/\Cov.Kern n ((ch++S).map Dem.dm)
def InP(n:Nat)(all:List Dem)(b:Nat->Rat):Prop:=∀D∈all,D.dm.meets n b
def QB(n:Nat)(x:Nat->Rat):Option (Nat->Rat)->Prop
 |none=>False
 |some b=>∀i,i < n->b i=x i
theorem JW{all:List Dem}(h:QA n most all x):Compl n all x 0 []:=by
 obtain⟨S,h1,h2,h3,h4⟩:=Cov.corner_exists (v:=qu most) (all.map Dem.dm) x (fun D hD=>by
  obtain⟨E,hE,rfl⟩:=List.mem_map.1 hD;exact h.meets E hE) (fun y hy=>h.least y (fun D hD=>hy _ (List.mem_map.2 ⟨D,hD,rfl⟩)))
 obtain⟨S',hs,rfl⟩:=List.sublist_map_iff.1 h1;refine⟨S',by rw[List.drop_zero];exact hs,by simpa using h2,fun D hD=>?_,by simpa using h4⟩;exact h3 _ (List.mem_map.2 ⟨D,by simpa using hD,rfl⟩)
theorem qAU{all:List Dem}{ch:List Dem}(hk:k < all.length)(h:Compl n all x k ch):
 Compl n all x (k+1) (ch++[all.getD k yN])∨Compl n all x (k+1) ch:=by
 obtain⟨S,h1,h2,h3,h4⟩:=h;rw[List.drop_eq_getElem_cons hk]at h1;have e:all.getD k yN=all[k]:=by rw[gD,gE hk];rfl
 rw[e];rcases List.sublist_cons_iff.1 h1 with h5|⟨S',rfl,h5⟩
 ·exact Or.inr ⟨S,h5,h2,h3,h4⟩
 ·refine Or.inl ⟨S',h5,by simp at h2 ⊢;omega,fun D hD=>h3 D (by simpa using hD),by simpa using h4⟩
theorem qAV{all:List Dem}{ch:List Dem}(h:Compl n all x k ch)(hk:all.length < k+n - ch.length)(hka:k<=all.length):False:=by
 obtain⟨S,h1,h2,-,-⟩:=h;have:=h1.length_le;rw[List.length_drop]at this;omega
theorem Z5{all:List Dem}{ch:List Dem}(h:Compl n all x k ch)(hc:ch.length=n):(∀D∈ch,D.dm.at n x=D.dm.b)/\Cov.Kern n (ch.map Dem.dm):=by
 obtain⟨S,h1,h2,h3,h4⟩:=h;have:S=[]:=List.length_eq_zero_iff.1 (by omega);subst this;rw[List.append_nil]at h3 h4;exact⟨h3,h4⟩
theorem Uk{v:Rat}(h:∀i,i < n->b i=x i):Cov.key v n b=Cov.key v n x:=Cov.key_congr h
theorem qBY{all:List Dem}(hs:QA n most all x)(hy:InP n all y)(hbef:uC n most y b=true)(hb:QB n x (some b)):QB n x (some y):=by
 have h1:=(Y7.1 hbef);have e:=Uk (v:=qu most) hb;rw[e]at h1;exact absurd (hs.least y hy) h1.2
theorem qBZ{all:List Dem}(hs:QA n most all x)(hb:InP n all b)(hbef:uC n most y b=false)(hy:∀i,i < n->y i=x i):QB n x (some b):=by
 have e:=Uk (v:=qu most) hy
 have h1:¬(Cov.Lex (Cov.key (qu most) n y) (Cov.key (qu most) n b)/\¬Cov.Lex (Cov.key (qu most) n b) (Cov.key (qu most) n y)):=fun h=>by
  rw[Y7.2 h]at hbef;cases hbef
 rw[e]at h1;have h2:=hs.least b hb;have h3:Cov.Lex (Cov.key (qu most) n b) (Cov.key (qu most) n x):=Classical.byContradiction fun h=>h1 ⟨h2,h⟩;exact Cov.key_inj (Cov.Lex.antisymm h3 h2)
end Go.Proofs.YtjbpgdpciinlcaaGreat
