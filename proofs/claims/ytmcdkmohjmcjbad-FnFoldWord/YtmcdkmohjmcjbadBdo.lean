/- What the model's bound tables answer: contracts. Conditions: rows that can be read, lengths of at most 2 to the 40. -/

